/- Used by the law. -/
import Derived.Test.YtbgoldeopmlbnaaGreatDoorQB17
import Derived.Test.YtbgoldeopmlbnaaGreatDoorQB19
set_option maxRecDepth 100000
set_option maxHeartbeats 16000000
namespace Go.Proofs.YtbgoldeopmlbnaaGreatDoor
open Go.RowKit Go.PlainAid G IRow
set_option linter.unusedVariables false
theorem boxc_low {x y : World} {n h : Nat} {cs : List Value} (hb : BoxC x h cs) (hxy : Below n x y) (hn : h < n) : BoxC y h cs :=
 ⟨Nat.lt_of_lt_of_le hb.lt hxy.size,fun j v hv => (hxy.cell (p:=⟨h,j,none⟩) hn).trans (hb.cell j v hv),fun j => (hxy.frozen (p:=⟨h,j,none⟩) hn).trans (hb.free j)⟩
theorem doneAll_any (b : Bk) (a1 a2 : Option Addr) (n1 n2 a3 a4 : Nat) (a : Option Addr) (n cap : Nat) (ds : List Dd) (w : World) (h : BkR w a1 n1 a3 a2 n2 a4 b.ts b.is) (hb : bookB b = true) (hr : DdR w a n cap ds) (hn : n <= 10) (hd : ∀ t,t < n -> deedOf (ds.getD t ddD) = true) :
 Calls Tryz.prog 44 #[.agg #[.int .i64 b.c0,.int .i64 b.c1,.int .i64 b.c2,.int .i64 b.c3,.slice a1 n1 a3,.slice a2 n2 a4],.slice a n cap] w (NewBookOut (doAllS b ds) w):=by
 have HR:=qH hr
 have HDS:=qH hd
 have HBB:=qH hb
 have hsz:=book_sizes hb
 have hl1 : b.ts.length = n1:=h.t.len
 have hl2 : b.is.length = n2:=h.i.len
 have HBK:=qH h
 clear hr hd hb h
 go_enter Tryz.func44,Tryz.ntmps44
 go_wp2_with fail
 obtain ⟨W,hW⟩ : ∃ W,W = (w.alloc (.cells #[.int .i64 b.c0,.int .i64 b.c1,.int .i64 b.c2,.int .i64 b.c3,.slice a1 n1 a3,.slice a2 n2 a4] 28)).alloc (.cells #[.int .i64 0,.int .i64 0,.int .i64 0,.int .i64 0,.slice none 0 0,.slice none 0 0,.int .i64 0] 46):=⟨_,rfl⟩
 have HB0 : Hid (Below w.heap.size w W):=qH (by rw [hW];exact ((Below.refl _ _).alloc (Nat.le_refl _) _).alloc (by simp) _)
 have HZ0 : Hid (BoxC W (w.heap.size + 1) [.int .i64 0,.int .i64 0,.int .i64 0,.int .i64 0,.slice none 0 0,.slice none 0 0,.int .i64 0]):=qH (by rw [hW];have:=BoxC.made (w.alloc (.cells #[.int .i64 b.c0,.int .i64 b.c1,.int .i64 b.c2,.int .i64 b.c3,.slice a1 n1 a3,.slice a2 n2 a4] 28)) #[.int .i64 0,.int .i64 0,.int .i64 0,.int .i64 0,.slice none 0 0,.slice none 0 0,.int .i64 0] 46;rwa [World.size_alloc] at this)
 rw [<- hW]
 clear hW
 refine (draftOf_any b a1 a2 n1 n2 a3 a4 _ (HBK.out.below HB0.out) (by omega) (by omega) hsz.2.2.1 (fun t ht => by have:=(hsz.2.2.2.2 t (by omega)).1;unfold maxLen;omega)).mono ?_
 rintro e w1 ⟨B,M,v,rfl,hD,hb⟩
 have HD1:=qH hD
 have HB1:=qH (HB0.out.trans (hb.mono HB0.out.size))
 have HWS : Hid (w.heap.size + 1 < W.heap.size):=qH HZ0.out.lt
 have HZ1:=qH (HZ0.out.below hb)
 have HW1 : Hid (W.heap.size <= w1.heap.size):=qH hb.size
 clear hD hb hsz
 go_wp2_with fail
 go_loopw [13] (fun i wr => ∃ (k : Nat) (b2 : Bk) (v2 : Value),k <= n /\ i = .int .i64 k /\ Hid (Dr wr W.heap.size B M v2 b2) /\ Hid (bookB b2 = true) /\ Hid (doAllS b ds = doAllS b2 (ds.drop k)) /\ Hid (Below w.heap.size w wr) /\ Hid (BoxC wr (w.heap.size + 1) [.int .i64 0,.int .i64 0,.int .i64 0,.int .i64 0,.slice none 0 0,.slice none 0 0,.int .i64 0]) /\ Hid (W.heap.size <= wr.heap.size)) (fun i _ => n - (intOf i).toNat)
 case atStart => exact ⟨0,b,v,Nat.zero_le _,rfl,HD1,HBB,qH (by rw [List.drop_zero]),HB1,HZ1,HW1⟩
 case round =>
  obtain ⟨k,b2,v2,hk,rfl,HD,HBR,HDO,HB,HZ,HSZ⟩:=hrel
  clear HD1 HBB HB1 HZ1 HW1
  have hsz:=book_sizes HBR.out
  have hlds : ds.length = n:=HR.out.len
  by_cases hlt : k < n
  · obtain ⟨g,o,rfl,hg,t0,t1,t2,t3,t4,t5,t6,t7,t8,t9⟩:=DdR.at (SR.below HR.out HB.out) hlt
    have hin : 0 <= (k : Int) /\ (k : Int) < (n : Int):=by omega
    have hrd:=HDS.out k hlt
    have HDP : Hid (ds.drop k = ds.getD k ddD :: ds.drop (k + 1)):=qH (by
     rw [show ds.getD k ddD = ds[k]'(by omega) by simp [List.getD,List.getElem?_eq_getElem (show k < ds.length by omega)]]
     exact List.drop_eq_getElem_cons (by omega))
    generalize ds.getD k ddD = d at *
    obtain ⟨q0,q1,q2,q3,q4,q5,q6,q7,q8,q9⟩:=d
    dsimp only at t0 t1 t2 t3 t4 t5 t6 t7 t8 t9
    obtain ⟨V,hV⟩ : ∃ V,V = wr.alloc (.cells #[.int .i64 q0,.int .i64 q1,.int .i64 q2,.int .i64 q3,.int .i64 q4,.int .i64 q5,.string q6,.string q7,.int .i64 q8,.string q9] 34):=⟨_,rfl⟩
    have HWV : Hid (Below wr.heap.size wr V):=qH (by rw [hV];exact (Below.refl _ _).alloc (Nat.le_refl _) _)
    go_wp2_with fail
    rw [<- hV]
    clear hV t0 t1 t2 t3 t4 t5 t6 t7 t8 t9
    refine (draftDo_any q0 q1 q2 q3 q4 q5 q6 q7 q8 q9 (HD.out.below HWV.out) (Nat.le_trans HSZ.out HWV.out.size) hrd (conf_zero HBR.out) hsz.1 hsz.2.1).mono ?_
    rintro e w5 ⟨rfl,hp⟩
    have HP:=qH hp
    have HDP2 : Hid (doAllS b ds = if (doS b2 ⟨q0,q1,q2,q3,q4,q5,q6,q7,q8,q9⟩).2 = 0 then doAllS (doS b2 ⟨q0,q1,q2,q3,q4,q5,q6,q7,q8,q9⟩).1 (ds.drop (k + 1)) else (bk0,(doS b2 ⟨q0,q1,q2,q3,q4,q5,q6,q7,q8,q9⟩).2)):=qH (by rw [HDO.out,HDP.out];rfl)
    have HRT:=qH (fun h0 => doS_right HBR.out (d:=⟨q0,q1,q2,q3,q4,q5,q6,q7,q8,q9⟩) hrd h0)
    have HLOW : Hid (∀ x y : World,Below W.heap.size x y -> BoxC x (w.heap.size + 1) [.int .i64 0,.int .i64 0,.int .i64 0,.int .i64 0,.slice none 0 0,.slice none 0 0,.int .i64 0] -> BoxC y (w.heap.size + 1) [.int .i64 0,.int .i64 0,.int .i64 0,.int .i64 0,.slice none 0 0,.slice none 0 0,.int .i64 0]):=qH (fun x y hxy hb => boxc_low hb hxy HWS.out)
    clear hp HDP HDO hrd hsz
    generalize doS b2 ⟨q0,q1,q2,q3,q4,q5,q6,q7,q8,q9⟩ = r at *
    obtain ⟨b3,cd⟩:=r
    dsimp only at HP HDP2 HRT ⊢
    by_cases hc : cd = 0
    · obtain ⟨v3,hD3⟩:=HP.out.2 hc
      have hb3:=HP.out.1
      have HD3:=qH hD3
      have HB3:=qH (HB.out.trans ((HWV.out.mono HB.out.size).trans (hb3.mono (Nat.le_trans (Nat.le_of_lt (Nat.lt_of_succ_lt HWS.out)) (Nat.le_refl _)))))
      have HZ3:=qH (HLOW.out _ _ hb3 (HZ.out.below HWV.out))
      have HS3:=qH (Nat.le_trans (Nat.le_trans HSZ.out HWV.out.size) hb3.size)
      have HR3:=qH (bookB_right (HRT.out hc))
      have HDN : Hid (doAllS b ds = doAllS b3 (ds.drop (k + 1))):=qH (by rw [HDP2.out,if_pos hc])
      have hc2 : (cd != 0) = false:=by rw [hc];rfl
      clear hD3 hb3 HP HDP2 HRT HLOW
      go_wp2_with fail
      go_roundw
      case rel => exact ⟨k + 1,b3,v3,by omega,by go_num,HD3,HR3,HDN,HB3,HZ3,HS3⟩
      case measure => simp [intOf];omega
    · have hc2 : (cd != 0) = true:=by simpa using hc
      have HN : Hid (doAllS b ds = (bk0,cd)):=qH (by rw [HDP2.out,if_neg hc])
      have hb3:=HP.out.1
      have HB3:=qH (HB.out.trans ((HWV.out.mono HB.out.size).trans (hb3.mono (Nat.le_trans (Nat.le_of_lt (Nat.lt_of_succ_lt HWS.out)) (Nat.le_refl _)))))
      have hz3:=HLOW.out _ _ hb3 (HZ.out.below HWV.out)
      clear hb3 HP HDP2 HRT HLOW
      have z0:=hz3.cell 0 _ rfl
      have f0:=hz3.free 0
      have z1:=hz3.cell 1 _ rfl
      have f1:=hz3.free 1
      have z2:=hz3.cell 2 _ rfl
      have f2:=hz3.free 2
      have z3:=hz3.cell 3 _ rfl
      have f3:=hz3.free 3
      have z4:=hz3.cell 4 _ rfl
      have f4:=hz3.free 4
      have z5:=hz3.cell 5 _ rfl
      have f5:=hz3.free 5
      have z6:=hz3.cell 6 _ rfl
      have f6:=hz3.free 6
      have hY:=(((((((hz3.set (j:=0) (by simp) (.int .i64 0)).set (j:=1) (by simp) (.int .i64 0)).set (j:=2) (by simp) (.int .i64 0)).set (j:=3) (by simp) (.int .i64 0)).set (j:=4) (by simp) (.slice none 0 0)).set (j:=5) (by simp) (.slice none 0 0)).set (j:=6) (by simp) (.int .i64 cd))
      have HYB:=qH (((((((HB3.out.setCell (p:=⟨w.heap.size + 1,0,none⟩) (by dsimp only;omega) (.int .i64 0)).setCell (p:=⟨w.heap.size + 1,1,none⟩) (by dsimp only;omega) (.int .i64 0)).setCell (p:=⟨w.heap.size + 1,2,none⟩) (by dsimp only;omega) (.int .i64 0)).setCell (p:=⟨w.heap.size + 1,3,none⟩) (by dsimp only;omega) (.int .i64 0)).setCell (p:=⟨w.heap.size + 1,4,none⟩) (by dsimp only;omega) (.slice none 0 0)).setCell (p:=⟨w.heap.size + 1,5,none⟩) (by dsimp only;omega) (.slice none 0 0)).setCell (p:=⟨w.heap.size + 1,6,none⟩) (by dsimp only;omega) (.int .i64 cd))
      obtain ⟨Y,hYd⟩ : ∃ Y,Y = ((((((w5.setCell ⟨w.heap.size + 1,0,none⟩ (.int .i64 0)).setCell ⟨w.heap.size + 1,1,none⟩ (.int .i64 0)).setCell ⟨w.heap.size + 1,2,none⟩ (.int .i64 0)).setCell ⟨w.heap.size + 1,3,none⟩ (.int .i64 0)).setCell ⟨w.heap.size + 1,4,none⟩ (.slice none 0 0)).setCell ⟨w.heap.size + 1,5,none⟩ (.slice none 0 0)).setCell ⟨w.heap.size + 1,6,none⟩ (.int .i64 cd):=⟨_,rfl⟩
      rw [<- hYd] at hY HYB
      have g0:=hY.cell 0 _ rfl
      have g1:=hY.cell 1 _ rfl
      have g2:=hY.cell 2 _ rfl
      have g3:=hY.cell 3 _ rfl
      have g4:=hY.cell 4 _ rfl
      have g5:=hY.cell 5 _ rfl
      have g6:=hY.cell 6 _ rfl
      have HG:=qH (And.intro g0 (And.intro g1 (And.intro g2 (And.intro g3 (And.intro g4 (And.intro g5 g6))))))
      have HYD:=qH hYd
      clear hY hYd g0 g1 g2 g3 g4 g5 g6
      go_wp2_with fail
      rw [<- HYD.out]
      obtain ⟨g0,g1,g2,g3,g4,g5,g6⟩:=HG.out
      clear z0 f0 z1 f1 z2 f2 z3 f3 z4 f4 z5 f5 z6 f6
      exact bodyPost_ret (v:=.agg #[.int .i64 0,.int .i64 0,.int .i64 0,.int .i64 0,.slice none 0 0,.slice none 0 0,.int .i64 cd]) (by simp [results,Tryz.results44,go_sem,g0,g1,g2,g3,g4,g5,g6]) rfl (by rw [HN.out];exact ⟨none,0,0,none,0,0,rfl,⟨World.ownsRow_nil _ _ _ _,World.ownsRow_nil _ _ _ _⟩,HYB.out⟩)
  · have hkn : k = n:=by omega
    have HN : Hid (doAllS b ds = (b2,0)):=qH (by rw [HDO.out,hkn,List.drop_eq_nil_of_le (by omega)];rfl)
    have hge : ¬ (k : Int) < (n : Int):=by omega
    clear hkn hlt hk
    go_wp2_with fail
    refine (told_any HD.out hsz.1 hsz.2.1 hsz.2.2.2.1 hsz.2.2.2.2).mono ?_
    rintro e w5 ⟨e1,m1,e3,e2,m2,e4,rfl,ho,hb⟩
    have HBO:=qH ho
    have HB5:=qH (HB.out.trans (hb.mono HB.out.size))
    have hz5:=HZ.out.below hb
    clear ho hb hsz
    have z0:=hz5.cell 0 _ rfl
    have f0:=hz5.free 0
    have z1:=hz5.cell 1 _ rfl
    have f1:=hz5.free 1
    have z2:=hz5.cell 2 _ rfl
    have f2:=hz5.free 2
    have z3:=hz5.cell 3 _ rfl
    have f3:=hz5.free 3
    have z4:=hz5.cell 4 _ rfl
    have f4:=hz5.free 4
    have z5:=hz5.cell 5 _ rfl
    have f5:=hz5.free 5
    have z6:=hz5.cell 6 _ rfl
    have f6:=hz5.free 6
    have hY:=(((((((hz5.set (j:=0) (by simp) (.int .i64 b2.c0)).set (j:=1) (by simp) (.int .i64 b2.c1)).set (j:=2) (by simp) (.int .i64 b2.c2)).set (j:=3) (by simp) (.int .i64 b2.c3)).set (j:=4) (by simp) (.slice e1 m1 e3)).set (j:=5) (by simp) (.slice e2 m2 e4)).set (j:=6) (by simp) (.int .i64 0))
    have HYB:=qH (((((((HB5.out.setCell (p:=⟨w.heap.size + 1,0,none⟩) (by dsimp only;omega) (.int .i64 b2.c0)).setCell (p:=⟨w.heap.size + 1,1,none⟩) (by dsimp only;omega) (.int .i64 b2.c1)).setCell (p:=⟨w.heap.size + 1,2,none⟩) (by dsimp only;omega) (.int .i64 b2.c2)).setCell (p:=⟨w.heap.size + 1,3,none⟩) (by dsimp only;omega) (.int .i64 b2.c3)).setCell (p:=⟨w.heap.size + 1,4,none⟩) (by dsimp only;omega) (.slice e1 m1 e3)).setCell (p:=⟨w.heap.size + 1,5,none⟩) (by dsimp only;omega) (.slice e2 m2 e4)).setCell (p:=⟨w.heap.size + 1,6,none⟩) (by dsimp only;omega) (.int .i64 0))
    obtain ⟨Y,hYd⟩ : ∃ Y,Y = ((((((w5.setCell ⟨w.heap.size + 1,0,none⟩ (.int .i64 b2.c0)).setCell ⟨w.heap.size + 1,1,none⟩ (.int .i64 b2.c1)).setCell ⟨w.heap.size + 1,2,none⟩ (.int .i64 b2.c2)).setCell ⟨w.heap.size + 1,3,none⟩ (.int .i64 b2.c3)).setCell ⟨w.heap.size + 1,4,none⟩ (.slice e1 m1 e3)).setCell ⟨w.heap.size + 1,5,none⟩ (.slice e2 m2 e4)).setCell ⟨w.heap.size + 1,6,none⟩ (.int .i64 0):=⟨_,rfl⟩
    have HYT : Hid (Y.ownsRow w.heap.size 30 tmE.k (.slice e1 m1 e3) m1 (tmE.flat b2.ts)):=qH (by rw [hYd];exact (own_other (own_other (own_other (own_other (own_other (own_other (own_other (own_mono HBO.out.t (show w.heap.size <= wr.heap.size from HB.out.size)) (b:=w.heap.size + 1) (fun q hq => by have:=(HBO.out.t.lt q hq).1;have:=HWS.out;have:=HSZ.out;omega) ⟨w.heap.size + 1,0,none⟩ (.int .i64 b2.c0) rfl) (b:=w.heap.size + 1) (fun q hq => by have:=(HBO.out.t.lt q hq).1;have:=HWS.out;have:=HSZ.out;omega) ⟨w.heap.size + 1,1,none⟩ (.int .i64 b2.c1) rfl) (b:=w.heap.size + 1) (fun q hq => by have:=(HBO.out.t.lt q hq).1;have:=HWS.out;have:=HSZ.out;omega) ⟨w.heap.size + 1,2,none⟩ (.int .i64 b2.c2) rfl) (b:=w.heap.size + 1) (fun q hq => by have:=(HBO.out.t.lt q hq).1;have:=HWS.out;have:=HSZ.out;omega) ⟨w.heap.size + 1,3,none⟩ (.int .i64 b2.c3) rfl) (b:=w.heap.size + 1) (fun q hq => by have:=(HBO.out.t.lt q hq).1;have:=HWS.out;have:=HSZ.out;omega) ⟨w.heap.size + 1,4,none⟩ (.slice e1 m1 e3) rfl) (b:=w.heap.size + 1) (fun q hq => by have:=(HBO.out.t.lt q hq).1;have:=HWS.out;have:=HSZ.out;omega) ⟨w.heap.size + 1,5,none⟩ (.slice e2 m2 e4) rfl) (b:=w.heap.size + 1) (fun q hq => by have:=(HBO.out.t.lt q hq).1;have:=HWS.out;have:=HSZ.out;omega) ⟨w.heap.size + 1,6,none⟩ (.int .i64 0) rfl))
    have HYI : Hid (Y.ownsRow w.heap.size 32 imE.k (.slice e2 m2 e4) m2 (imE.flat b2.is)):=qH (by rw [hYd];exact (own_other (own_other (own_other (own_other (own_other (own_other (own_other (own_mono HBO.out.i (show w.heap.size <= wr.heap.size from HB.out.size)) (b:=w.heap.size + 1) (fun q hq => by have:=(HBO.out.i.lt q hq).1;have:=HWS.out;have:=HSZ.out;omega) ⟨w.heap.size + 1,0,none⟩ (.int .i64 b2.c0) rfl) (b:=w.heap.size + 1) (fun q hq => by have:=(HBO.out.i.lt q hq).1;have:=HWS.out;have:=HSZ.out;omega) ⟨w.heap.size + 1,1,none⟩ (.int .i64 b2.c1) rfl) (b:=w.heap.size + 1) (fun q hq => by have:=(HBO.out.i.lt q hq).1;have:=HWS.out;have:=HSZ.out;omega) ⟨w.heap.size + 1,2,none⟩ (.int .i64 b2.c2) rfl) (b:=w.heap.size + 1) (fun q hq => by have:=(HBO.out.i.lt q hq).1;have:=HWS.out;have:=HSZ.out;omega) ⟨w.heap.size + 1,3,none⟩ (.int .i64 b2.c3) rfl) (b:=w.heap.size + 1) (fun q hq => by have:=(HBO.out.i.lt q hq).1;have:=HWS.out;have:=HSZ.out;omega) ⟨w.heap.size + 1,4,none⟩ (.slice e1 m1 e3) rfl) (b:=w.heap.size + 1) (fun q hq => by have:=(HBO.out.i.lt q hq).1;have:=HWS.out;have:=HSZ.out;omega) ⟨w.heap.size + 1,5,none⟩ (.slice e2 m2 e4) rfl) (b:=w.heap.size + 1) (fun q hq => by have:=(HBO.out.i.lt q hq).1;have:=HWS.out;have:=HSZ.out;omega) ⟨w.heap.size + 1,6,none⟩ (.int .i64 0) rfl))
    rw [<- hYd] at hY HYB
    have g0:=hY.cell 0 _ rfl
    have g1:=hY.cell 1 _ rfl
    have g2:=hY.cell 2 _ rfl
    have g3:=hY.cell 3 _ rfl
    have g4:=hY.cell 4 _ rfl
    have g5:=hY.cell 5 _ rfl
    have g6:=hY.cell 6 _ rfl
    have HG:=qH (And.intro g0 (And.intro g1 (And.intro g2 (And.intro g3 (And.intro g4 (And.intro g5 g6))))))
    have HYD:=qH hYd
    clear hY hYd g0 g1 g2 g3 g4 g5 g6
    go_wp2_with fail
    rw [<- HYD.out]
    obtain ⟨g0,g1,g2,g3,g4,g5,g6⟩:=HG.out
    clear z0 f0 z1 f1 z2 f2 z3 f3 z4 f4 z5 f5 z6 f6
    exact bodyPost_ret (v:=.agg #[.int .i64 b2.c0,.int .i64 b2.c1,.int .i64 b2.c2,.int .i64 b2.c3,.slice e1 m1 e3,.slice e2 m2 e4,.int .i64 0]) (by simp [results,Tryz.results44,go_sem,g0,g1,g2,g3,g4,g5,g6]) rfl (by rw [HN.out];exact ⟨e1,m1,e3,e2,m2,e4,rfl,⟨HYT.out,HYI.out⟩,HYB.out⟩)
def bookDoS (b : Bk) (d : Dd) : Bk × Int:=if bookB b = true /\ deedOf d = true then doS b d else (bk0,1)
def CodeP (r : Bk × Int) : Prop:=r.2 = 0 ∨ r.1 = bk0
theorem doS_code (b : Bk) (d : Dd) : CodeP (doS b d):=by
 unfold doS itemsR
 repeat' split
 all_goals first | exact Or.inl rfl | exact Or.inr rfl
theorem doAllS_one (b : Bk) (d : Dd) : doAllS b [d] = doS b d:=by
 show (if (doS b d).2 = 0 then ((doS b d).1,(0 : Int)) else (bk0,(doS b d).2)) = doS b d
 by_cases h : (doS b d).2 = 0
 · rw [if_pos h,<- h]
 · rw [if_neg h,<- (doS_code b d).resolve_left h]
theorem implBookDo_any (b : Bk) (a1 a2 : Option Addr) (n1 n2 a3 a4 : Nat) (q0 q1 q2 q3 q4 q5 : Int) (q6 q7 : ByteArray) (q8 : Int) (q9 : ByteArray) (w : World) (h : BkR w a1 n1 a3 a2 n2 a4 b.ts b.is) (hn1 : n1 <= 1048576) (hn2 : n2 <= 1048576) (hs1 : ∀ t,t < n1 -> (b.ts.getD t tmD).lk.size <= maxLen) (hs2 : ∀ t,t < n2 -> (b.is.getD t imD).nm.size <= maxLen /\ (b.is.getD t imD).bd.size <= maxLen) (h6 : q6.size <= maxLen) (h7 : q7.size <= maxLen) (h9 : q9.size <= maxLen) :
 Calls Tryz.prog 13 #[.agg #[.int .i64 b.c0,.int .i64 b.c1,.int .i64 b.c2,.int .i64 b.c3,.slice a1 n1 a3,.slice a2 n2 a4],.agg #[.int .i64 q0,.int .i64 q1,.int .i64 q2,.int .i64 q3,.int .i64 q4,.int .i64 q5,.string q6,.string q7,.int .i64 q8,.string q9]] w (NewBookOut (bookDoS b ⟨q0,q1,q2,q3,q4,q5,q6,q7,q8,q9⟩) w):=by
 have HBK:=qH h
 have HS1:=qH hs1
 have HS2:=qH hs2
 clear h hs1 hs2
 obtain ⟨W,hW⟩ : ∃ W,W = ((w.alloc (.cells #[.int .i64 b.c0,.int .i64 b.c1,.int .i64 b.c2,.int .i64 b.c3,.slice a1 n1 a3,.slice a2 n2 a4] 28)).alloc (.cells #[.int .i64 q0,.int .i64 q1,.int .i64 q2,.int .i64 q3,.int .i64 q4,.int .i64 q5,.string q6,.string q7,.int .i64 q8,.string q9] 34)).alloc (.cells #[.int .i64 0,.int .i64 0,.int .i64 0,.int .i64 0,.slice none 0 0,.slice none 0 0,.int .i64 0] 46):=⟨_,rfl⟩
 have HB0 : Hid (Below w.heap.size w W):=qH (by rw [hW];repeat' (first | exact Below.refl _ _ | refine Below.alloc ?_ (by first | exact Nat.le_refl _ | (simp;done) | (simp;omega)) _))
 have HXb : Hid (BoxC W w.heap.size [.int .i64 b.c0,.int .i64 b.c1,.int .i64 b.c2,.int .i64 b.c3,.slice a1 n1 a3,.slice a2 n2 a4]):=qH (by rw [hW];exact ((BoxC.made _ _ _).alloc _).alloc _)
 have HXd : Hid (BoxC W (w.heap.size + 1) [.int .i64 q0,.int .i64 q1,.int .i64 q2,.int .i64 q3,.int .i64 q4,.int .i64 q5,.string q6,.string q7,.int .i64 q8,.string q9]):=qH (by rw [hW];have:=(BoxC.made (w.alloc (.cells #[.int .i64 b.c0,.int .i64 b.c1,.int .i64 b.c2,.int .i64 b.c3,.slice a1 n1 a3,.slice a2 n2 a4] 28)) #[.int .i64 q0,.int .i64 q1,.int .i64 q2,.int .i64 q3,.int .i64 q4,.int .i64 q5,.string q6,.string q7,.int .i64 q8,.string q9] 34).alloc (.cells #[.int .i64 0,.int .i64 0,.int .i64 0,.int .i64 0,.slice none 0 0,.slice none 0 0,.int .i64 0] 46);rwa [World.size_alloc] at this)
 have HXr : Hid (BoxC W (w.heap.size + 1 + 1) [.int .i64 0,.int .i64 0,.int .i64 0,.int .i64 0,.slice none 0 0,.slice none 0 0,.int .i64 0]):=qH (by rw [hW];have:=BoxC.made ((w.alloc (.cells #[.int .i64 b.c0,.int .i64 b.c1,.int .i64 b.c2,.int .i64 b.c3,.slice a1 n1 a3,.slice a2 n2 a4] 28)).alloc (.cells #[.int .i64 q0,.int .i64 q1,.int .i64 q2,.int .i64 q3,.int .i64 q4,.int .i64 q5,.string q6,.string q7,.int .i64 q8,.string q9] 34)) #[.int .i64 0,.int .i64 0,.int .i64 0,.int .i64 0,.slice none 0 0,.slice none 0 0,.int .i64 0] 46;rwa [World.size_alloc,World.size_alloc] at this)
 go_enter Tryz.func13,Tryz.ntmps13
 go_wp2_with fail
 rw [<- hW]
 clear hW
 refine (implBookRight_any b a1 a2 n1 n2 a3 a4 _ (HBK.out.below HB0.out) hn1 hn2 HS1.out HS2.out).mono ?_
 rintro e w1 ⟨rfl,hb⟩
 have HB1:=qH hb
 clear hb
 cases hbr : bookB b
 · have HN : Hid (bookDoS b ⟨q0,q1,q2,q3,q4,q5,q6,q7,q8,q9⟩ = (bk0,1)):=qH (by unfold bookDoS;rw [if_neg (fun h => by rw [hbr] at h;cases h.1)])
   have hz3:=HXr.out.below HB1.out
   have HB3:=qH (HB0.out.trans (HB1.out.mono HB0.out.size))
   have z0:=hz3.cell 0 _ rfl
   have f0:=hz3.free 0
   have z1:=hz3.cell 1 _ rfl
   have f1:=hz3.free 1
   have z2:=hz3.cell 2 _ rfl
   have f2:=hz3.free 2
   have z3:=hz3.cell 3 _ rfl
   have f3:=hz3.free 3
   have z4:=hz3.cell 4 _ rfl
   have f4:=hz3.free 4
   have z5:=hz3.cell 5 _ rfl
   have f5:=hz3.free 5
   have z6:=hz3.cell 6 _ rfl
   have f6:=hz3.free 6
   have hY:=(((((((hz3.set (j:=0) (by simp) (.int .i64 0)).set (j:=1) (by simp) (.int .i64 0)).set (j:=2) (by simp) (.int .i64 0)).set (j:=3) (by simp) (.int .i64 0)).set (j:=4) (by simp) (.slice none 0 0)).set (j:=5) (by simp) (.slice none 0 0)).set (j:=6) (by simp) (.int .i64 1))
   have HYB:=qH (((((((HB3.out.setCell (p:=⟨w.heap.size + 1 + 1,0,none⟩) (by dsimp only;omega) (.int .i64 0)).setCell (p:=⟨w.heap.size + 1 + 1,1,none⟩) (by dsimp only;omega) (.int .i64 0)).setCell (p:=⟨w.heap.size + 1 + 1,2,none⟩) (by dsimp only;omega) (.int .i64 0)).setCell (p:=⟨w.heap.size + 1 + 1,3,none⟩) (by dsimp only;omega) (.int .i64 0)).setCell (p:=⟨w.heap.size + 1 + 1,4,none⟩) (by dsimp only;omega) (.slice none 0 0)).setCell (p:=⟨w.heap.size + 1 + 1,5,none⟩) (by dsimp only;omega) (.slice none 0 0)).setCell (p:=⟨w.heap.size + 1 + 1,6,none⟩) (by dsimp only;omega) (.int .i64 1))
   obtain ⟨Y,hYd⟩ : ∃ Y,Y = ((((((w1.setCell ⟨w.heap.size + 1 + 1,0,none⟩ (.int .i64 0)).setCell ⟨w.heap.size + 1 + 1,1,none⟩ (.int .i64 0)).setCell ⟨w.heap.size + 1 + 1,2,none⟩ (.int .i64 0)).setCell ⟨w.heap.size + 1 + 1,3,none⟩ (.int .i64 0)).setCell ⟨w.heap.size + 1 + 1,4,none⟩ (.slice none 0 0)).setCell ⟨w.heap.size + 1 + 1,5,none⟩ (.slice none 0 0)).setCell ⟨w.heap.size + 1 + 1,6,none⟩ (.int .i64 1):=⟨_,rfl⟩
   rw [<- hYd] at hY HYB
   have g0:=hY.cell 0 _ rfl
   have g1:=hY.cell 1 _ rfl
   have g2:=hY.cell 2 _ rfl
   have g3:=hY.cell 3 _ rfl
   have g4:=hY.cell 4 _ rfl
   have g5:=hY.cell 5 _ rfl
   have g6:=hY.cell 6 _ rfl
   have HG:=qH (And.intro g0 (And.intro g1 (And.intro g2 (And.intro g3 (And.intro g4 (And.intro g5 g6))))))
   have HYD:=qH hYd
   clear hz3 hY hYd g0 g1 g2 g3 g4 g5 g6
   go_wp2_with fail
   rw [<- HYD.out]
   obtain ⟨g0,g1,g2,g3,g4,g5,g6⟩:=HG.out
   clear z0 f0 z1 f1 z2 f2 z3 f3 z4 f4 z5 f5 z6 f6
   exact bodyPost_ret (v:=.agg #[.int .i64 0,.int .i64 0,.int .i64 0,.int .i64 0,.slice none 0 0,.slice none 0 0,.int .i64 1]) (by simp [results,Tryz.results13,go_sem,g0,g1,g2,g3,g4,g5,g6]) rfl (by rw [HN.out];exact ⟨none,0,0,none,0,0,rfl,⟨World.ownsRow_nil _ _ _ _,World.ownsRow_nil _ _ _ _⟩,HYB.out⟩)
 · have d0:=(HXd.out.below HB1.out).cell 0 _ rfl
   have d1:=(HXd.out.below HB1.out).cell 1 _ rfl
   have d2:=(HXd.out.below HB1.out).cell 2 _ rfl
   have d3:=(HXd.out.below HB1.out).cell 3 _ rfl
   have d4:=(HXd.out.below HB1.out).cell 4 _ rfl
   have d5:=(HXd.out.below HB1.out).cell 5 _ rfl
   have d6:=(HXd.out.below HB1.out).cell 6 _ rfl
   have d7:=(HXd.out.below HB1.out).cell 7 _ rfl
   have d8:=(HXd.out.below HB1.out).cell 8 _ rfl
   have d9:=(HXd.out.below HB1.out).cell 9 _ rfl
   go_wp2_with fail
   refine (implDeedRight_any q0 q1 q2 q3 q4 q5 q6 q7 q8 q9 _ h6 h7 h9).mono ?_
   rintro e w2 ⟨rfl,hb⟩
   have HB2:=qH (HB1.out.trans (hb.mono HB1.out.size))
   clear hb d0 d1 d2 d3 d4 d5 d6 d7 d8 d9
   cases hdr : deedB q0 q1 q2 q3 q4 q5 q6 q7 q8 q9
   · have HN : Hid (bookDoS b ⟨q0,q1,q2,q3,q4,q5,q6,q7,q8,q9⟩ = (bk0,1)):=qH (by unfold bookDoS;rw [if_neg (fun h => by have h2 : deedB q0 q1 q2 q3 q4 q5 q6 q7 q8 q9 = true:=h.2;rw [hdr] at h2;cases h2)])
     have hz3:=HXr.out.below HB2.out
     have HB3:=qH (HB0.out.trans (HB2.out.mono HB0.out.size))
     have z0:=hz3.cell 0 _ rfl
     have f0:=hz3.free 0
     have z1:=hz3.cell 1 _ rfl
     have f1:=hz3.free 1
     have z2:=hz3.cell 2 _ rfl
     have f2:=hz3.free 2
     have z3:=hz3.cell 3 _ rfl
     have f3:=hz3.free 3
     have z4:=hz3.cell 4 _ rfl
     have f4:=hz3.free 4
     have z5:=hz3.cell 5 _ rfl
     have f5:=hz3.free 5
     have z6:=hz3.cell 6 _ rfl
     have f6:=hz3.free 6
     have hY:=(((((((hz3.set (j:=0) (by simp) (.int .i64 0)).set (j:=1) (by simp) (.int .i64 0)).set (j:=2) (by simp) (.int .i64 0)).set (j:=3) (by simp) (.int .i64 0)).set (j:=4) (by simp) (.slice none 0 0)).set (j:=5) (by simp) (.slice none 0 0)).set (j:=6) (by simp) (.int .i64 1))
     have HYB:=qH (((((((HB3.out.setCell (p:=⟨w.heap.size + 1 + 1,0,none⟩) (by dsimp only;omega) (.int .i64 0)).setCell (p:=⟨w.heap.size + 1 + 1,1,none⟩) (by dsimp only;omega) (.int .i64 0)).setCell (p:=⟨w.heap.size + 1 + 1,2,none⟩) (by dsimp only;omega) (.int .i64 0)).setCell (p:=⟨w.heap.size + 1 + 1,3,none⟩) (by dsimp only;omega) (.int .i64 0)).setCell (p:=⟨w.heap.size + 1 + 1,4,none⟩) (by dsimp only;omega) (.slice none 0 0)).setCell (p:=⟨w.heap.size + 1 + 1,5,none⟩) (by dsimp only;omega) (.slice none 0 0)).setCell (p:=⟨w.heap.size + 1 + 1,6,none⟩) (by dsimp only;omega) (.int .i64 1))
     obtain ⟨Y,hYd⟩ : ∃ Y,Y = ((((((w2.setCell ⟨w.heap.size + 1 + 1,0,none⟩ (.int .i64 0)).setCell ⟨w.heap.size + 1 + 1,1,none⟩ (.int .i64 0)).setCell ⟨w.heap.size + 1 + 1,2,none⟩ (.int .i64 0)).setCell ⟨w.heap.size + 1 + 1,3,none⟩ (.int .i64 0)).setCell ⟨w.heap.size + 1 + 1,4,none⟩ (.slice none 0 0)).setCell ⟨w.heap.size + 1 + 1,5,none⟩ (.slice none 0 0)).setCell ⟨w.heap.size + 1 + 1,6,none⟩ (.int .i64 1):=⟨_,rfl⟩
     rw [<- hYd] at hY HYB
     have g0:=hY.cell 0 _ rfl
     have g1:=hY.cell 1 _ rfl
     have g2:=hY.cell 2 _ rfl
     have g3:=hY.cell 3 _ rfl
     have g4:=hY.cell 4 _ rfl
     have g5:=hY.cell 5 _ rfl
     have g6:=hY.cell 6 _ rfl
     have HG:=qH (And.intro g0 (And.intro g1 (And.intro g2 (And.intro g3 (And.intro g4 (And.intro g5 g6))))))
     have HYD:=qH hYd
     clear hz3 hY hYd g0 g1 g2 g3 g4 g5 g6
     go_wp2_with fail
     rw [<- HYD.out]
     obtain ⟨g0,g1,g2,g3,g4,g5,g6⟩:=HG.out
     clear z0 f0 z1 f1 z2 f2 z3 f3 z4 f4 z5 f5 z6 f6
     exact bodyPost_ret (v:=.agg #[.int .i64 0,.int .i64 0,.int .i64 0,.int .i64 0,.slice none 0 0,.slice none 0 0,.int .i64 1]) (by simp [results,Tryz.results13,go_sem,g0,g1,g2,g3,g4,g5,g6]) rfl (by rw [HN.out];exact ⟨none,0,0,none,0,0,rfl,⟨World.ownsRow_nil _ _ _ _,World.ownsRow_nil _ _ _ _⟩,HYB.out⟩)
   · have HN : Hid (bookDoS b ⟨q0,q1,q2,q3,q4,q5,q6,q7,q8,q9⟩ = doAllS b [⟨q0,q1,q2,q3,q4,q5,q6,q7,q8,q9⟩]):=qH (by unfold bookDoS;rw [if_pos ⟨hbr,hdr⟩,doAllS_one])
     have HBR:=qH hbr
     have HDR:=qH hdr
     clear hbr hdr
     have d0:=(HXd.out.below HB2.out).cell 0 _ rfl
     have d1:=(HXd.out.below HB2.out).cell 1 _ rfl
     have d2:=(HXd.out.below HB2.out).cell 2 _ rfl
     have d3:=(HXd.out.below HB2.out).cell 3 _ rfl
     have d4:=(HXd.out.below HB2.out).cell 4 _ rfl
     have d5:=(HXd.out.below HB2.out).cell 5 _ rfl
     have d6:=(HXd.out.below HB2.out).cell 6 _ rfl
     have d7:=(HXd.out.below HB2.out).cell 7 _ rfl
     have d8:=(HXd.out.below HB2.out).cell 8 _ rfl
     have d9:=(HXd.out.below HB2.out).cell 9 _ rfl
     have b0:=(HXb.out.below HB2.out).cell 0 _ rfl
     have b1:=(HXb.out.below HB2.out).cell 1 _ rfl
     have b2:=(HXb.out.below HB2.out).cell 2 _ rfl
     have b3:=(HXb.out.below HB2.out).cell 3 _ rfl
     have b4:=(HXb.out.below HB2.out).cell 4 _ rfl
     have b5:=(HXb.out.below HB2.out).cell 5 _ rfl
     go_wp2_with fail
     clear d0 d1 d2 d3 d4 d5 d6 d7 d8 d9 b0 b1 b2 b3 b4 b5
     obtain ⟨X,hX⟩ : ∃ X,X = w2.alloc (.cells #[.int .i64 q0,.int .i64 q1,.int .i64 q2,.int .i64 q3,.int .i64 q4,.int .i64 q5,.string q6,.string q7,.int .i64 q8,.string q9] 34):=⟨_,rfl⟩
     have hXB : Below w2.heap.size w2 X:=by rw [hX];exact (Below.refl _ _).alloc (Nat.le_refl _) _
     have hL : DdR X (some ⟨w2.heap.size,0,none⟩) 1 1 [⟨q0,q1,q2,q3,q4,q5,q6,q7,q8,q9⟩]:=by rw [hX];exact SR.own (by decide) (World.ownsRow_lit w2 #[.int .i64 q0,.int .i64 q1,.int .i64 q2,.int .i64 q3,.int .i64 q4,.int .i64 q5,.string q6,.string q7,.int .i64 q8,.string q9] 1 (Nat.le_refl _) (by decide) rfl)
     have HBX:=qH (HB2.out.trans (hXB.mono HB2.out.size))
     have HBX0:=qH (HB0.out.trans (HBX.out.mono HB0.out.size))
     have hsz:=book_sizes HBR.out
     have hl1 : b.ts.length = n1:=HBK.out.t.len
     have hone : ∀ t,t < 1 -> deedOf ([(⟨q0,q1,q2,q3,q4,q5,q6,q7,q8,q9⟩ : Dd)].getD t ddD) = true:=fun t ht => by
      have h0 : t = 0:=by omega
      subst h0
      exact HDR.out
     rw [<- hX]
     clear hX hXB
     refine (doneAll_any b a1 a2 n1 n2 a3 a4 (some ⟨w2.heap.size,0,none⟩) 1 1 [⟨q0,q1,q2,q3,q4,q5,q6,q7,q8,q9⟩] X (HBK.out.below HBX0.out) HBR.out hL (by omega) hone).mono ?_
     rintro e w4 hnb
     rw [<- HN.out] at hnb
     generalize bookDoS b ⟨q0,q1,q2,q3,q4,q5,q6,q7,q8,q9⟩ = r at *
     obtain ⟨e1,m1,e3,e2,m2,e4,rfl,ho,hb4⟩:=hnb
     have HBO:=qH ho
     have HB4:=qH (HBX0.out.trans (hb4.mono HBX0.out.size))
     have hz3:=(HXr.out.below HBX.out).below hb4
     have HXS:=qH (show w.heap.size + 1 + 1 < X.heap.size from (HXr.out.below HBX.out).lt)
     clear ho hb4 hsz hl1 hL HN
     have z0:=hz3.cell 0 _ rfl
     have f0:=hz3.free 0
     have z1:=hz3.cell 1 _ rfl
     have f1:=hz3.free 1
     have z2:=hz3.cell 2 _ rfl
     have f2:=hz3.free 2
     have z3:=hz3.cell 3 _ rfl
     have f3:=hz3.free 3
     have z4:=hz3.cell 4 _ rfl
     have f4:=hz3.free 4
     have z5:=hz3.cell 5 _ rfl
     have f5:=hz3.free 5
     have z6:=hz3.cell 6 _ rfl
     have f6:=hz3.free 6
     have hY:=(((((((hz3.set (j:=0) (by simp) (.int .i64 r.1.c0)).set (j:=1) (by simp) (.int .i64 r.1.c1)).set (j:=2) (by simp) (.int .i64 r.1.c2)).set (j:=3) (by simp) (.int .i64 r.1.c3)).set (j:=4) (by simp) (.slice e1 m1 e3)).set (j:=5) (by simp) (.slice e2 m2 e4)).set (j:=6) (by simp) (.int .i64 r.2))
     have HYB:=qH (((((((HB4.out.setCell (p:=⟨w.heap.size + 1 + 1,0,none⟩) (by dsimp only;omega) (.int .i64 r.1.c0)).setCell (p:=⟨w.heap.size + 1 + 1,1,none⟩) (by dsimp only;omega) (.int .i64 r.1.c1)).setCell (p:=⟨w.heap.size + 1 + 1,2,none⟩) (by dsimp only;omega) (.int .i64 r.1.c2)).setCell (p:=⟨w.heap.size + 1 + 1,3,none⟩) (by dsimp only;omega) (.int .i64 r.1.c3)).setCell (p:=⟨w.heap.size + 1 + 1,4,none⟩) (by dsimp only;omega) (.slice e1 m1 e3)).setCell (p:=⟨w.heap.size + 1 + 1,5,none⟩) (by dsimp only;omega) (.slice e2 m2 e4)).setCell (p:=⟨w.heap.size + 1 + 1,6,none⟩) (by dsimp only;omega) (.int .i64 r.2))
     obtain ⟨Y,hYd⟩ : ∃ Y,Y = ((((((w4.setCell ⟨w.heap.size + 1 + 1,0,none⟩ (.int .i64 r.1.c0)).setCell ⟨w.heap.size + 1 + 1,1,none⟩ (.int .i64 r.1.c1)).setCell ⟨w.heap.size + 1 + 1,2,none⟩ (.int .i64 r.1.c2)).setCell ⟨w.heap.size + 1 + 1,3,none⟩ (.int .i64 r.1.c3)).setCell ⟨w.heap.size + 1 + 1,4,none⟩ (.slice e1 m1 e3)).setCell ⟨w.heap.size + 1 + 1,5,none⟩ (.slice e2 m2 e4)).setCell ⟨w.heap.size + 1 + 1,6,none⟩ (.int .i64 r.2):=⟨_,rfl⟩
     have HYT : Hid (Y.ownsRow w.heap.size 30 tmE.k (.slice e1 m1 e3) m1 (tmE.flat r.1.ts)):=qH (by rw [hYd];exact (own_other (own_other (own_other (own_other (own_other (own_other (own_other (own_mono HBO.out.t (show w.heap.size <= X.heap.size by have:=HXS.out;omega)) (b:=w.heap.size + 1 + 1) (fun q hq => by have:=(HBO.out.t.lt q hq).1;have:=HXS.out;omega) ⟨w.heap.size + 1 + 1,0,none⟩ (.int .i64 r.1.c0) rfl) (b:=w.heap.size + 1 + 1) (fun q hq => by have:=(HBO.out.t.lt q hq).1;have:=HXS.out;omega) ⟨w.heap.size + 1 + 1,1,none⟩ (.int .i64 r.1.c1) rfl) (b:=w.heap.size + 1 + 1) (fun q hq => by have:=(HBO.out.t.lt q hq).1;have:=HXS.out;omega) ⟨w.heap.size + 1 + 1,2,none⟩ (.int .i64 r.1.c2) rfl) (b:=w.heap.size + 1 + 1) (fun q hq => by have:=(HBO.out.t.lt q hq).1;have:=HXS.out;omega) ⟨w.heap.size + 1 + 1,3,none⟩ (.int .i64 r.1.c3) rfl) (b:=w.heap.size + 1 + 1) (fun q hq => by have:=(HBO.out.t.lt q hq).1;have:=HXS.out;omega) ⟨w.heap.size + 1 + 1,4,none⟩ (.slice e1 m1 e3) rfl) (b:=w.heap.size + 1 + 1) (fun q hq => by have:=(HBO.out.t.lt q hq).1;have:=HXS.out;omega) ⟨w.heap.size + 1 + 1,5,none⟩ (.slice e2 m2 e4) rfl) (b:=w.heap.size + 1 + 1) (fun q hq => by have:=(HBO.out.t.lt q hq).1;have:=HXS.out;omega) ⟨w.heap.size + 1 + 1,6,none⟩ (.int .i64 r.2) rfl))
     have HYI : Hid (Y.ownsRow w.heap.size 32 imE.k (.slice e2 m2 e4) m2 (imE.flat r.1.is)):=qH (by rw [hYd];exact (own_other (own_other (own_other (own_other (own_other (own_other (own_other (own_mono HBO.out.i (show w.heap.size <= X.heap.size by have:=HXS.out;omega)) (b:=w.heap.size + 1 + 1) (fun q hq => by have:=(HBO.out.i.lt q hq).1;have:=HXS.out;omega) ⟨w.heap.size + 1 + 1,0,none⟩ (.int .i64 r.1.c0) rfl) (b:=w.heap.size + 1 + 1) (fun q hq => by have:=(HBO.out.i.lt q hq).1;have:=HXS.out;omega) ⟨w.heap.size + 1 + 1,1,none⟩ (.int .i64 r.1.c1) rfl) (b:=w.heap.size + 1 + 1) (fun q hq => by have:=(HBO.out.i.lt q hq).1;have:=HXS.out;omega) ⟨w.heap.size + 1 + 1,2,none⟩ (.int .i64 r.1.c2) rfl) (b:=w.heap.size + 1 + 1) (fun q hq => by have:=(HBO.out.i.lt q hq).1;have:=HXS.out;omega) ⟨w.heap.size + 1 + 1,3,none⟩ (.int .i64 r.1.c3) rfl) (b:=w.heap.size + 1 + 1) (fun q hq => by have:=(HBO.out.i.lt q hq).1;have:=HXS.out;omega) ⟨w.heap.size + 1 + 1,4,none⟩ (.slice e1 m1 e3) rfl) (b:=w.heap.size + 1 + 1) (fun q hq => by have:=(HBO.out.i.lt q hq).1;have:=HXS.out;omega) ⟨w.heap.size + 1 + 1,5,none⟩ (.slice e2 m2 e4) rfl) (b:=w.heap.size + 1 + 1) (fun q hq => by have:=(HBO.out.i.lt q hq).1;have:=HXS.out;omega) ⟨w.heap.size + 1 + 1,6,none⟩ (.int .i64 r.2) rfl))
     rw [<- hYd] at hY HYB
     have g0:=hY.cell 0 _ rfl
     have g1:=hY.cell 1 _ rfl
     have g2:=hY.cell 2 _ rfl
     have g3:=hY.cell 3 _ rfl
     have g4:=hY.cell 4 _ rfl
     have g5:=hY.cell 5 _ rfl
     have g6:=hY.cell 6 _ rfl
     have HG:=qH (And.intro g0 (And.intro g1 (And.intro g2 (And.intro g3 (And.intro g4 (And.intro g5 g6))))))
     have HYD:=qH hYd
     clear hz3 hY hYd g0 g1 g2 g3 g4 g5 g6
     go_wp2_with fail
     rw [<- HYD.out]
     obtain ⟨g0,g1,g2,g3,g4,g5,g6⟩:=HG.out
     clear z0 f0 z1 f1 z2 f2 z3 f3 z4 f4 z5 f5 z6 f6
     exact bodyPost_ret (v:=.agg #[.int .i64 r.1.c0,.int .i64 r.1.c1,.int .i64 r.1.c2,.int .i64 r.1.c3,.slice e1 m1 e3,.slice e2 m2 e4,.int .i64 r.2]) (by simp [results,Tryz.results13,go_sem,g0,g1,g2,g3,g4,g5,g6]) rfl ⟨e1,m1,e3,e2,m2,e4,rfl,⟨HYT.out,HYI.out⟩,HYB.out⟩
end Go.Proofs.YtbgoldeopmlbnaaGreatDoor
namespace Go.Proofs.YtbgoldeopmlbnaaGreatDoor
open Go.RowKit Go.PlainAid G IRow MNum MJoin MCrc
set_option linter.unusedVariables false
def txTo (ds : List Dd) (k : Nat) : ByteArray:=(ds.take k).foldl (fun t d => t ++ deedTx d) (numS (ds.length : Int))
theorem txTo_zero (ds : List Dd) : txTo ds 0 = numS (ds.length : Int):=rfl
theorem txTo_succ {ds : List Dd} {k : Nat} (h : k < ds.length) : txTo ds (k + 1) = txTo ds k ++ deedTx (ds.getD k ddD):=by
 unfold txTo
 have e : ds.take (k + 1) = ds.take k ++ [ds.getD k ddD]:=by
  rw [show ds.getD k ddD = ds[k] by simp [List.getD,List.getElem?_eq_getElem h]]
  exact (List.take_append_getElem h).symm
 rw [e,List.foldl_append]
 rfl
def txOk (ds : List Dd) : Bool:=decide (1 <= ds.length /\ ds.length <= 10) && allTo' (fun i => deedOf (ds.getD i ddD)) ds.length
def txS (ds : List Dd) : ByteArray:=if txOk ds = true then putTextS (sealS (txTo ds ds.length)) else ⟨#[]⟩
theorem txS_no {ds : List Dd} (h : txOk ds = false) : txS ds = ⟨#[]⟩:=by unfold txS;rw [if_neg (by rw [h];decide)]
theorem txS_yes {ds : List Dd} (h : txOk ds = true) : txS ds = putTextS (sealS (txTo ds ds.length)):=by unfold txS;rw [if_pos h]
theorem deedT_size {q0 q1 q2 q3 q4 q5 : Int} {q6 q7 : ByteArray} {q8 : Int} {q9 : ByteArray} (h : deedB q0 q1 q2 q3 q4 q5 q6 q7 q8 q9 = true) : (deedT q0 q1 q2 q3 q4 q5 q6 q7 q8 q9).size <= 200:=by
 have a0:=(numS_size q0).2
 have a1:=(numS_size q1).2
 have a2:=(numS_size q2).2
 have a3:=(numS_size q3).2
 have a4:=(numS_size q4).2
 have a5:=(numS_size q5).2
 have a8:=(numS_size q8).2
 have pt : ∀ t : ByteArray,t.size <= 20 -> (putTextS t).size <= 30:=fun t ht => by
  rw [putTextS_short (by omega),ByteArray.size_append]
  have:=(numS_size (t.size : Int)).2
  omega
 unfold deedT
 rcases deedB_bounds h with ⟨rfl,_⟩ | ⟨rfl,_,h6,h7⟩ | ⟨rfl,⟨_,h7⟩,_,_,h9⟩ | ⟨rfl,_,h7⟩
 · simp only [if_pos,ByteArray.size_append];omega
 · have:=pt q6 (by omega)
   rw [if_neg (by decide),if_pos rfl]
   simp only [ByteArray.size_append];omega
 · have:=pt q7 (by omega)
   have:=pt q9 (by omega)
   rw [if_neg (by decide),if_neg (by decide),if_pos rfl]
   simp only [ByteArray.size_append];omega
 · have:=pt q7 (by omega)
   rw [if_neg (by decide),if_neg (by decide),if_neg (by decide)]
   simp only [ByteArray.size_append];omega
theorem specTxBytes_any (a : Option Addr) (n cap : Nat) (ds : List Dd) (w : World) (h : DdR w a n cap ds) (hn : n <= 1048576) (hs : ∀ t,t < n -> (ds.getD t ddD).lk.size <= maxLen /\ (ds.getD t ddD).nm.size <= maxLen /\ (ds.getD t ddD).bd.size <= maxLen) :
 Calls Tryz.prog 15 #[.slice a n cap] w fun e w' => e = .returned (.string (txS ds)) /\ Below w.heap.size w w':=by
 have hl : ds.length = n:=h.len
 have HS:=qH hs
 clear hs
 by_cases h1 : 1 <= n
 · by_cases h2 : n <= 10
   · have hz:=(numS_size (n : Int)).2
     go_enter Tryz.func15,Tryz.ntmps15
     go_wp2_with fail
     refine (specPutNum_any (n : Int) _ (i64_in (by omega) (by omega))).mono ?_
     rintro e w1 ⟨rfl,hb⟩
     have HB1:=qH hb
     clear hb
     go_wp2_with fail
     go_loopw [3,4] (fun t i wr => ∃ k : Nat,k <= n /\ i = .int .i64 k /\ t = .string (txTo ds k) /\ (txTo ds k).size <= 10 + 200 * k /\ Hid (allTo' (fun i => deedOf (ds.getD i ddD)) k = true) /\ Below w.heap.size w wr) (fun _ i _ => n - (intOf i).toNat)
     case atStart => exact ⟨0,Nat.zero_le _,rfl,by rw [txTo_zero,hl],by rw [txTo_zero,hl];omega,qH rfl,HB1.out⟩
     case round =>
      obtain ⟨k,hk,rfl,rfl,hsz,HA,hB⟩:=hrel
      clear HB1
      have HB:=qH hB
      by_cases hlt : k < n
      · obtain ⟨g,o,rfl,hg,t0,t1,t2,t3,t4,t5,t6,t7,t8,t9⟩:=h.at hlt
        have hin : 0 <= (k : Int) /\ (k : Int) < (n : Int):=by omega
        have hgw : g < wr.heap.size:=Nat.lt_of_lt_of_le hg hB.size
        have x0:=(hB.cell (p:=⟨g,o + k * 10,none⟩) hg).trans t0
        have x1:=(hB.cell (p:=⟨g,o + k * 10 + 1,none⟩) hg).trans t1
        have x2:=(hB.cell (p:=⟨g,o + k * 10 + 2,none⟩) hg).trans t2
        have x3:=(hB.cell (p:=⟨g,o + k * 10 + 3,none⟩) hg).trans t3
        have x4:=(hB.cell (p:=⟨g,o + k * 10 + 4,none⟩) hg).trans t4
        have x5:=(hB.cell (p:=⟨g,o + k * 10 + 5,none⟩) hg).trans t5
        have x6:=(hB.cell (p:=⟨g,o + k * 10 + 6,none⟩) hg).trans t6
        have x7:=(hB.cell (p:=⟨g,o + k * 10 + 7,none⟩) hg).trans t7
        have x8:=(hB.cell (p:=⟨g,o + k * 10 + 8,none⟩) hg).trans t8
        have x9:=(hB.cell (p:=⟨g,o + k * 10 + 9,none⟩) hg).trans t9
        have hsj:=HS.out k hlt
        have HST:=qH (txTo_succ (ds:=ds) (k:=k) (by omega))
        have HD : Hid (deedOf (ds.getD k ddD) = deedB (ds.getD k ddD).kd (ds.getD k ddD).gn (ds.getD k ddD).nd (ds.getD k ddD).mn (ds.getD k ddD).ck (ds.getD k ddD).no (ds.getD k ddD).lk (ds.getD k ddD).nm (ds.getD k ddD).tm (ds.getD k ddD).bd):=qH rfl
        have HTX : Hid (deedTx (ds.getD k ddD) = deedT (ds.getD k ddD).kd (ds.getD k ddD).gn (ds.getD k ddD).nd (ds.getD k ddD).mn (ds.getD k ddD).ck (ds.getD k ddD).no (ds.getD k ddD).lk (ds.getD k ddD).nm (ds.getD k ddD).tm (ds.getD k ddD).bd):=qH rfl
        generalize (ds.getD k ddD).kd = q0 at *
        generalize (ds.getD k ddD).gn = q1 at *
        generalize (ds.getD k ddD).nd = q2 at *
        generalize (ds.getD k ddD).mn = q3 at *
        generalize (ds.getD k ddD).ck = q4 at *
        generalize (ds.getD k ddD).no = q5 at *
        generalize (ds.getD k ddD).lk = q6 at *
        generalize (ds.getD k ddD).nm = q7 at *
        generalize (ds.getD k ddD).tm = q8 at *
        generalize (ds.getD k ddD).bd = q9 at *
        generalize htk : txTo ds k = tk at *
        have HTK:=qH htk
        have HX:=qH (And.intro x0 (And.intro x1 (And.intro x2 (And.intro x3 (And.intro x4 (And.intro x5 (And.intro x6 (And.intro x7 (And.intro x8 x9)))))))))
        clear htk hB t0 t1 t2 t3 t4 t5 t6 t7 t8 t9
        go_wp2_with fail
        refine (specDeedRight_any q0 q1 q2 q3 q4 q5 q6 q7 q8 q9 _ hsj.1 hsj.2.1 hsj.2.2).mono ?_
        rintro e w5 ⟨rfl,hb⟩
        have HB5:=qH (HB.out.trans (hb.mono HB.out.size))
        obtain ⟨y0,y1,y2,y3,y4,y5,y6,y7,y8,y9⟩:=HX.out
        have z0:=(hb.cell (p:=⟨g,o + k * 10,none⟩) hgw).trans y0
        have z1:=(hb.cell (p:=⟨g,o + k * 10 + 1,none⟩) hgw).trans y1
        have z2:=(hb.cell (p:=⟨g,o + k * 10 + 2,none⟩) hgw).trans y2
        have z3:=(hb.cell (p:=⟨g,o + k * 10 + 3,none⟩) hgw).trans y3
        have z4:=(hb.cell (p:=⟨g,o + k * 10 + 4,none⟩) hgw).trans y4
        have z5:=(hb.cell (p:=⟨g,o + k * 10 + 5,none⟩) hgw).trans y5
        have z6:=(hb.cell (p:=⟨g,o + k * 10 + 6,none⟩) hgw).trans y6
        have z7:=(hb.cell (p:=⟨g,o + k * 10 + 7,none⟩) hgw).trans y7
        have z8:=(hb.cell (p:=⟨g,o + k * 10 + 8,none⟩) hgw).trans y8
        have z9:=(hb.cell (p:=⟨g,o + k * 10 + 9,none⟩) hgw).trans y9
        clear hb x0 y0 x1 y1 x2 y2 x3 y3 x4 y4 x5 y5 x6 y6 x7 y7 x8 y8 x9 y9
        cases hv : deedB q0 q1 q2 q3 q4 q5 q6 q7 q8 q9
        · have HF:=qH (txS_no (ds:=ds) (by unfold txOk;rw [hl,allTo'_no hlt (by rw [HD.out];exact hv),Bool.and_false])).symm
          go_wp2_with fail
          go_ret
          exact ⟨ret_string HF.out,HB5.out⟩
        · have hz5:=deedT_size hv
          have HA2:=qH (allTo'_succ HA.out (by rw [HD.out];exact hv))
          have HV:=qH hv
          clear hv
          go_wp2_with fail
          refine (l07Deed_any q0 q1 q2 q3 q4 q5 q6 q7 q8 q9 _ HV.out).mono ?_
          rintro e w6 ⟨rfl,hb⟩
          have HB6:=qH (HB5.out.trans (hb.mono HB5.out.size))
          have HTT : Hid (txTo ds (k + 1) = tk ++ deedT q0 q1 q2 q3 q4 q5 q6 q7 q8 q9):=qH (by rw [HST.out,HTX.out])
          clear hb z0 z1 z2 z3 z4 z5 z6 z7 z8 z9 HTX HST
          generalize deedT q0 q1 q2 q3 q4 q5 q6 q7 q8 q9 = dt at *
          have hadd : ∀ u : World,(Op.stringOp .add tk dt).run Tryz.prog u = .ok (.string (tk ++ dt)) u:=fun u => run_string_add_sum u _ _ (by omega)
          have hns : (tk ++ dt).size <= 10 + 200 * (k + 1):=by rw [ByteArray.size_append];omega
          rw [<- HTT.out] at hns
          go_wp2_with fail
          go_roundw
          case rel => exact ⟨k + 1,by omega,by go_num,by rw [HTT.out],hns,HA2,HB6.out⟩
          case measure => simp [intOf] <;> omega
      · obtain rfl : n = k:=by omega
        have HOK : Hid (txOk ds = true):=qH (by unfold txOk;rw [hl,decide_eq_true ⟨h1,h2⟩,HA.out];rfl)
        have HF:=qH (txS_yes HOK.out).symm
        rw [hl] at HF
        have hss : (sealS (txTo ds n)).size <= maxLen:=by rw [sealS_yes (by omega),ByteArray.size_append,crc4_size];unfold maxLen;omega
        have HSS:=qH hss
        have HSM : Hid ((txTo ds n).size <= maxLen):=qH (by unfold maxLen;omega)
        clear hss hB h
        go_wp2_with fail
        refine (specSeal_any _ _ HSM.out).mono ?_
        rintro e w5 ⟨rfl,hb⟩
        have HB5:=qH (HB.out.trans (hb.mono HB.out.size))
        clear hb
        go_wp2_with fail
        refine (specPutText_any _ _ HSS.out).mono ?_
        rintro e w6 ⟨rfl,hb⟩
        have HB6:=qH (HB5.out.trans (hb.mono HB5.out.size))
        clear hb
        go_wp2_with fail
        go_ret
        exact ⟨ret_string HF.out,HB6.out⟩
   · have HF:=qH (txS_no (ds:=ds) (by unfold txOk;rw [hl,decide_eq_false (by omega)];rfl)).symm
     go_enter Tryz.func15,Tryz.ntmps15
     go_wp2_with fail
     go_ret
     exact ⟨ret_string HF.out,Below.refl _ _⟩
 · have HF:=qH (txS_no (ds:=ds) (by unfold txOk;rw [hl,decide_eq_false (by omega)];rfl)).symm
   go_enter Tryz.func15,Tryz.ntmps15
   go_wp2_with fail
   go_ret
   exact ⟨ret_string HF.out,Below.refl _ _⟩
end Go.Proofs.YtbgoldeopmlbnaaGreatDoor
namespace Go.Proofs.YtbgoldeopmlbnaaGreatDoor.MGet
open Go.PlainAid MNum
def HoldsL (s : ByteArray) (a : Nat) (l : List Int) : Prop:=∀ i,i < l.length -> a + i < s.size /\ bt s (a + i) = l.getD i 0
theorem HoldsL.head {s : ByteArray} {a : Nat} {x : Int} {l : List Int} (h : HoldsL s a (x :: l)) : a < s.size /\ bt s a = x:=by
 have:=h 0 (by simp);simpa using this
theorem HoldsL.tail {s : ByteArray} {a : Nat} {x : Int} {l : List Int} (h : HoldsL s a (x :: l)) : HoldsL s (a + 1) l:=by
 intro i hi
 have:=h (i + 1) (by simp;omega)
 rw [show a + 1 + i = a + (i + 1) by omega]
 simpa using this
theorem unf_fold {n : Int} (h : i64P n) : unf (foldI n) = n:=by
 unfold i64P at h
 by_cases a : 0 <= n
 · rw [foldI_pos a,unf_even (by omega)];omega
 · rw [foldI_neg (by omega),unf_odd (by omega)];omega
theorem pow_step (k : Nat) : (2 : Int) ^ (7 * (k + 1)) = 128 * 2 ^ (7 * k):=by
 rw [show 7 * (k + 1) = 7 * k + 7 by omega,Int.pow_add];omega
theorem split128 (u p : Int) : u % 128 * p + u / 128 * (128 * p) = u * p:=by
 have h : u = u % 128 + u / 128 * 128:=by omega
 conv => rhs;rw [h]
 rw [Int.add_mul,Int.mul_assoc]
theorem read_enc {s : ByteArray} {a : Nat} : ∀ (f k : Nat) (x u : Int),k + f = 9 -> 0 <= u -> u < capN f -> (0 < k -> 1 <= u) -> 0 <= x -> x + u * 2 ^ (7 * k) <= 18446744073709551615 -> HoldsL s (a + k) (encL f u) →
 rdS s a (f + 1) k x = (unf (x + u * 2 ^ (7 * k)),(a : Int) + (k : Int) + ((encL f u).length : Int),0)
 | 0,k,x,u,hk,h0,hc,hpos,hx,hb,hh => by
  have h1 : u < 128:=by simpa [capN] using hc
  obtain rfl : k = 9:=by omega
  have hu1 : u <= 1:=by
   have : (2 : Int) ^ (7 * 9) = 9223372036854775808:=by decide
   rw [this] at hb;omega
  have hd:=(HoldsL.head (l:=[]) (by simpa [encL] using hh))
  rw [rd_last (by omega) (by rw [hd.2];omega) (by rw [hd.2];omega) (by rw [hd.2];intro h;have:=hpos (by omega);omega),hd.2,show u % 128 = u by omega]
  simp [encL]
 | f + 1,k,x,u,hk,h0,hc,hpos,hx,hb,hh => by
  by_cases hu : u < 128
  · rw [encL_small hu] at hh ⊢
    have hd:=HoldsL.head (l:=[]) hh
    rw [rd_last (by omega) (by omega) (by rw [hd.2];exact hu) (by rw [hd.2];intro h;have:=hpos h.2;omega),hd.2,show u % 128 = u by omega]
    simp
  · rw [encL_big (by omega)] at hh ⊢
    have hd:=hh.head
    have ht:=hh.tail
    have hm : (u % 128 + 128) % 128 = u % 128:=by omega
    rw [rd_more (by omega) (by omega) (by rw [hd.2];omega),hd.2,hm]
    have hp:=pow_step k
    have hs:=split128 u (2 ^ (7 * k))
    have hpp : (0 : Int) <= 2 ^ (7 * k):=Int.le_of_lt (Int.pow_pos (by decide))
    have hmul : (0 : Int) <= u % 128 * 2 ^ (7 * k):=Int.mul_nonneg (by omega) hpp
    have e : x + u % 128 * 2 ^ (7 * k) + u / 128 * 2 ^ (7 * (k + 1)) = x + u * 2 ^ (7 * k):=by rw [hp];omega
    rw [read_enc f (k + 1) (x + u % 128 * 2 ^ (7 * k)) (u / 128) (by omega) (by omega) (cap_step hc) (by omega) (by omega) (by rw [e];exact hb) (by rw [show a + (k + 1) = a + k + 1 by omega];exact ht),e]
    simp
    omega
theorem read_num {s : ByteArray} {a : Nat} {n : Int} (h : i64P n) (hh : HoldsL s a (encN (foldI n))) : rdS s a 10 0 0 = (n,(a : Int) + ((encN (foldI n)).length : Int),0):=by
 have hr:=foldI_range h
 have:=read_enc (s:=s) (a:=a) 9 0 0 (foldI n) rfl hr.1 (cap_all hr.2) (fun h => absurd h (by omega)) (by omega) (by have:=hr.2;unfold p64 at this;simp;omega) (by rw [Nat.add_zero];exact hh)
 rw [this]
 simp [unf_fold h,encN]
theorem enc_bytes : ∀ (f : Nat) (u : Int),0 <= u -> u < capN f -> ∀ z ∈ encL f u,0 <= z /\ z <= 255
 | 0,u,h0,hc,z,hz => by
  have h1 : u < 128:=by simpa [capN] using hc
  simp [encL] at hz;omega
 | f + 1,u,h0,hc,z,hz => by
  by_cases hu : u < 128
  · rw [encL_small hu] at hz;simp at hz;omega
  · rw [encL_big (by omega)] at hz
    rcases List.mem_cons.1 hz with rfl | hz
    · omega
    · exact enc_bytes f (u / 128) (by omega) (cap_step hc) z hz
theorem bt_nums {zs : List Int} (h : ∀ z ∈ zs,0 <= z /\ z <= 255) {i : Nat} (hi : i < zs.length) : bt (strOfNums zs) i = zs.getD i 0:=by
 have hs : i < (strOfNums zs).size:=by rw [strOfNums_size];exact hi
 have hz:=h zs[i] (List.getElem_mem hi)
 unfold bt
 rw [dif_pos hs]
 have e : (strOfNums zs)[i] = UInt8.ofNat zs[i].toNat:=by
  show (strOfNums zs).data[i] = _
  simp [strOfNums]
 rw [e]
 simp [List.getD,List.getElem?_eq_getElem hi]
 omega
theorem bt_left {x y : ByteArray} {i : Nat} (h : i < x.size) : bt (x ++ y) i = bt x i:=by
 unfold bt
 rw [dif_pos (by rw [ByteArray.size_append];omega),dif_pos h,ByteArray.getElem_append_left h]
theorem bt_right {x y : ByteArray} {i : Nat} (h : x.size <= i) : bt (x ++ y) i = bt y (i - x.size):=by
 unfold bt
 by_cases hy : i - x.size < y.size
 · rw [dif_pos (by rw [ByteArray.size_append];omega),dif_pos hy,ByteArray.getElem_append_right h]
 · rw [dif_neg (by rw [ByteArray.size_append];omega),dif_neg hy]
theorem holds_mid {x y : ByteArray} {zs : List Int} (h : ∀ z ∈ zs,0 <= z /\ z <= 255) : HoldsL (x ++ strOfNums zs ++ y) x.size zs:=by
 intro i hi
 have hs : (strOfNums zs).size = zs.length:=strOfNums_size zs
 refine ⟨by rw [ByteArray.size_append,ByteArray.size_append];omega,?_⟩
 rw [bt_left (by rw [ByteArray.size_append];omega),bt_right (by omega),show x.size + i - x.size = i by omega,bt_nums h hi]
end Go.Proofs.YtbgoldeopmlbnaaGreatDoor.MGet
