/- Used by the law. -/
import Derived.Test.YthkbcjnbmciolaaGreatDoorQV17
set_option maxRecDepth 100000
set_option maxHeartbeats 16000000
namespace Go.Proofs.YthkbcjnbmciolaaGreatDoor
open Go.RowKit Go.PlainAid G MGet MGF IRow MNum MJoin
set_option linter.unusedVariables false
def ddV (d : Dd) : Value:=.agg #[.int .i64 d.kd,.int .i64 d.gn,.int .i64 d.nd,.int .i64 d.mn,.int .i64 d.ck,.int .i64 d.no,.string d.lk,.string d.nm,.int .i64 d.tm,.string d.bd]
def DeedOr (u : ByteArray) (a b : Nat) (w : World) (e : Ending) (w' : World) : Prop :=
 (okDeed u (a,false) = true /\ e = .returned (ddV (rdDeed u (a,false)).1) /\ RB w' b u ((rdDeed u (a,false)).2.1 : Int) ∨ okDeed u (a,false) = false /\ e = .panicked [{ v:=errV 3,recovered:=false }]) /\ w.grownBy w' (some b)
theorem BoxC.kept {w w' : World} {h b : Nat} {cs : List Value} (k : BoxC w h cs) (hg : w.grownBy w' (some b)) (hne : h ≠ b) : BoxC w' h cs:=k.grown hg (by intro e;injection e with e;exact hne e)
theorem RB.other {w : World} {b : Nat} {u : ByteArray} {p : Int} (k : RB w b u p) (h i : Nat) (v : Value) (hne : h ≠ b) : RB (w.setCell ⟨h,i,none⟩ v) b u p :=
 ⟨by simpa using k.lt,(World.cell?_setCell_other _ ⟨h,i,none⟩ ⟨b,0,none⟩ _ (by intro e;injection e with e;exact hne e)).trans k.c0,(World.cell?_setCell_other _ ⟨h,i,none⟩ ⟨b,1,none⟩ _ (by intro e;injection e with e;exact hne e)).trans k.c1,by simpa using k.free⟩
theorem okDeed_bad {u : ByteArray} {q : Plc} (h : (rdDeed u q).2.2 = true) : okDeed u q = false:=by unfold okDeed;rw [h];rfl
theorem sN_step {u : ByteArray} {p : Nat} (h : (rdS u p 10 0 0).2.2 = 0) : ∃ n p',sN u (p,false) = (n,(p',false)) /\ rdS u p 10 0 0 = (n,((p' : Nat) : Int),0) /\ p' <= u.size:=by
 obtain ⟨hy,hf,hp⟩:=sN_yes (u:=u) (q:=(p,false)) h
 exact ⟨_,_,Prod.ext rfl (Prod.ext rfl hf),hy,hp⟩
theorem sT_step {u : ByteArray} {p : Nat} (hu : u.size <= 8000) (h : (txtS u p).2.2 = 0) : ∃ t p',sT u (p,false) = (t,(p',false)) /\ txtS u p = (t,((p' : Nat) : Int),0) /\ p' <= u.size /\ t.size <= maxLen:=by
 obtain ⟨hy,hf,hp⟩:=sT_yes (u:=u) (q:=(p,false)) h
 refine ⟨_,_,Prod.ext rfl (Prod.ext rfl hf),hy,hp,?_⟩
 have h1:=txt_fits (u:=u) (a:=p) hu
 rw [hy] at h1
 unfold maxLen
 exact Nat.le_trans h1 (by omega)
theorem deedIn_any (b : Nat) (u : ByteArray) (a : Nat) (w : World) (hR : RB w b u (a : Int)) (hu : u.size <= 8000) (ha : a <= u.size) :
 Calls Tryz.prog 130 #[.pointer (some ⟨b,0,none⟩)] w (DeedOr u a b w):=by
 obtain ⟨W,hW⟩ : ∃ W,W = w.alloc (.cells #[.int .i64 0,.int .i64 0,.int .i64 0,.int .i64 0,.int .i64 0,.int .i64 0,.string ⟨#[]⟩,.string ⟨#[]⟩,.int .i64 0,.string ⟨#[]⟩] 145):=⟨_,rfl⟩
 obtain ⟨h,hh⟩ : ∃ h,h = w.heap.size:=⟨_,rfl⟩
 have HY0:=qH (show BoxC W h [.int .i64 0,.int .i64 0,.int .i64 0,.int .i64 0,.int .i64 0,.int .i64 0,.string ⟨#[]⟩,.string ⟨#[]⟩,.int .i64 0,.string ⟨#[]⟩] by rw [hW,hh];exact BoxC.made _ _ _)
 have hb0 : Below w.heap.size w W:=by rw [hW];exact (Below.refl _ _).alloc (Nat.le_refl _) _
 have HR0:=qH (hR.below hb0)
 have HG0:=qH (show w.grownBy W (some b) from fg_below hb0)
 have hbh : b < h:=by rw [hh];exact hR.lt
 have hne : h ≠ b:=by omega
 have HHW:=qH (show w.heap.size <= h by omega)
 clear hR hb0
 go_enter Tryz.func130,Tryz.ntmps130
 go_wp2_with fail
 rw [<- hW,<- hh]
 clear hW hh
 by_cases hc : (rdS u a 10 0 0).2.2 = 0
 · obtain ⟨k,p1,he,hy,hp1⟩:=sN_step hc
   have HE:=qH he
   have HY:=qH hy
   clear hc hy he
   refine (num_ok b u a p1 k _ HR0.out hu ha HY.out).mono ?_
   rintro e w1 ⟨rfl,hr,hg⟩
   obtain ⟨V,hV⟩ : ∃ V,V = w1.alloc (.cells #[.int .i64 k,.int .i64 0,.int .i64 0,.int .i64 0,.int .i64 0,.int .i64 0,.string ⟨#[]⟩,.string ⟨#[]⟩,.int .i64 0,.string ⟨#[]⟩] 145):=⟨_,rfl⟩
   obtain ⟨x,hx⟩ : ∃ x,x = w1.heap.size:=⟨_,rfl⟩
   have hb1 : Below w1.heap.size w1 V:=by rw [hV];exact (Below.refl _ _).alloc (Nat.le_refl _) _
   have HR1:=qH (hr.below hb1)
   have HY1:=qH ((HY0.out.kept hg hne).below hb1)
   have HG1:=qH (grown_trans HG0.out (grown_trans hg (fg_below hb1)))
   have HX1:=qH (show BoxC V x [.int .i64 k,.int .i64 0,.int .i64 0,.int .i64 0,.int .i64 0,.int .i64 0,.string ⟨#[]⟩,.string ⟨#[]⟩,.int .i64 0,.string ⟨#[]⟩] by rw [hV,hx];exact BoxC.made _ _ _)
   have hxh : h < x:=by rw [hx];exact (HY0.out.kept hg hne).lt
   have hxb : x ≠ b:=by omega
   clear hr hg HY hb1 HY0 HR0 HG0
   by_cases hk1 : k = 1
   · skip
     subst hk1
     have HRC : Hid (∀ q,rcRest u 1 q = rcConf u 1 q):=qH (fun q => by unfold rcRest;simp)
     go_wp2_with fail
     rw [<- hV,<- hx]
     clear hV hx
     by_cases hc : (rdS u p1 10 0 0).2.2 = 0
     · skip
       obtain ⟨n2,p2,he2,hy,hp2⟩:=sN_step hc
       have HE2:=qH he2
       have HY:=qH hy
       clear hc hy he2
       refine (num_ok b u p1 p2 n2 _ HR1.out hu hp1 HY.out).mono ?_
       rintro e w2 ⟨rfl,hr,hg⟩
       have HR2:=qH hr
       have HY2:=qH (HY1.out.kept hg hne)
       have HX2:=qH (HX1.out.kept hg hxb)
       have HG2:=qH (grown_trans HG1.out hg)
       clear hr hg HY HY1 HX1
       go_wp2_with fail
       by_cases hc : (rdS u p2 10 0 0).2.2 = 0
       · skip
         obtain ⟨n3,p3,he3,hy,hp3⟩:=sN_step hc
         have HE3:=qH he3
         have HY:=qH hy
         clear hc hy he3
         refine (num_ok b u p2 p3 n3 _ HR2.out hu hp2 HY.out).mono ?_
         rintro e w3 ⟨rfl,hr,hg⟩
         have HR3:=qH hr
         have HY3:=qH (HY2.out.kept hg hne)
         have HX3:=qH (HX2.out.kept hg hxb)
         have HG3:=qH (grown_trans HG2.out hg)
         clear hr hg HY HY2 HX2
         go_wp2_with fail
         by_cases hc : (rdS u p3 10 0 0).2.2 = 0
         · skip
           obtain ⟨n4,p4,he4,hy,hp4⟩:=sN_step hc
           have HE4:=qH he4
           have HY:=qH hy
           clear hc hy he4
           refine (num_ok b u p3 p4 n4 _ HR3.out hu hp3 HY.out).mono ?_
           rintro e w4 ⟨rfl,hr,hg⟩
           have HR4:=qH hr
           have HY4:=qH (HY3.out.kept hg hne)
           have HX4:=qH (HX3.out.kept hg hxb)
           have HG4:=qH (grown_trans HG3.out hg)
           clear hr hg HY HY3 HX3
           go_wp2_with fail
           by_cases hc : (rdS u p4 10 0 0).2.2 = 0
           · skip
             obtain ⟨n5,p5,he5,hy,hp5⟩:=sN_step hc
             have HE5:=qH he5
             have HY:=qH hy
             clear hc hy he5
             refine (num_ok b u p4 p5 n5 _ HR4.out hu hp4 HY.out).mono ?_
             rintro e w5 ⟨rfl,hr,hg⟩
             have HR5:=qH hr
             have HY5:=qH (HY4.out.kept hg hne)
             have HX5:=qH (HX4.out.kept hg hxb)
             have HG5:=qH (grown_trans HG4.out hg)
             clear hr hg HY HY4 HX4
             have x0:=HX5.out.cell 0 _ rfl
             have fx0:=HX5.out.free 0
             have x1:=HX5.out.cell 1 _ rfl
             have fx1:=HX5.out.free 1
             have x2:=HX5.out.cell 2 _ rfl
             have fx2:=HX5.out.free 2
             have x3:=HX5.out.cell 3 _ rfl
             have fx3:=HX5.out.free 3
             have x4:=HX5.out.cell 4 _ rfl
             have fx4:=HX5.out.free 4
             have x5:=HX5.out.cell 5 _ rfl
             have fx5:=HX5.out.free 5
             have x6:=HX5.out.cell 6 _ rfl
             have fx6:=HX5.out.free 6
             have x7:=HX5.out.cell 7 _ rfl
             have fx7:=HX5.out.free 7
             have x8:=HX5.out.cell 8 _ rfl
             have fx8:=HX5.out.free 8
             have x9:=HX5.out.cell 9 _ rfl
             have fx9:=HX5.out.free 9
             obtain ⟨X,hX⟩ : ∃ X,X = (((w5.setCell ⟨x,1,none⟩ (.int .i64 n2)).setCell ⟨x,2,none⟩ (.int .i64 n3)).setCell ⟨x,3,none⟩ (.int .i64 n4)).setCell ⟨x,4,none⟩ (.int .i64 n5):=⟨_,rfl⟩
             have HXX:=qH (show BoxC X x [.int .i64 1,.int .i64 n2,.int .i64 n3,.int .i64 n4,.int .i64 n5,.int .i64 0,.string ⟨#[]⟩,.string ⟨#[]⟩,.int .i64 0,.string ⟨#[]⟩] by rw [hX];exact ((((HX5.out.set (j:=1) (by simp) (.int .i64 n2)).set (j:=2) (by simp) (.int .i64 n3)).set (j:=3) (by simp) (.int .i64 n4)).set (j:=4) (by simp) (.int .i64 n5)))
             have HRX:=qH (show RB X b u (p5 : Int) by rw [hX];exact ((((HR5.out.other x 1 (.int .i64 n2) hxb).other x 2 (.int .i64 n3) hxb).other x 3 (.int .i64 n4) hxb).other x 4 (.int .i64 n5) hxb))
             have HYX:=qH (show BoxC X h [.int .i64 0,.int .i64 0,.int .i64 0,.int .i64 0,.int .i64 0,.int .i64 0,.string ⟨#[]⟩,.string ⟨#[]⟩,.int .i64 0,.string ⟨#[]⟩] by rw [hX];exact ((((HY5.out.other ⟨x,1,none⟩ (.int .i64 n2) (by show x ≠ h;omega)).other ⟨x,2,none⟩ (.int .i64 n3) (by show x ≠ h;omega)).other ⟨x,3,none⟩ (.int .i64 n4) (by show x ≠ h;omega)).other ⟨x,4,none⟩ (.int .i64 n5) (by show x ≠ h;omega)))
             have HGX:=qH (show w.grownBy X (some b) by rw [hX];exact grown_own (grown_own (grown_own (grown_own (HG5.out) (grown_set _ x 1 _) (fun g hg => by cases hg;have:=HHW.out;omega)) (grown_set _ x 2 _) (fun g hg => by cases hg;have:=HHW.out;omega)) (grown_set _ x 3 _) (fun g hg => by cases hg;have:=HHW.out;omega)) (grown_set _ x 4 _) (fun g hg => by cases hg;have:=HHW.out;omega))
             have hlx:=HX5.out.lt
             clear HR5 HX5 HY5
             go_wp2_with fail
             rw [<- hX]
             clear hX x0 fx0 x1 fx1 x2 fx2 x3 fx3 x4 fx4 x5 fx5 x6 fx6 x7 fx7 x8 fx8 x9 fx9 hlx
             refine (implDeedRight_any 1 n2 n3 n4 n5 0 (⟨#[]⟩) (⟨#[]⟩) 0 (⟨#[]⟩) _ (Nat.zero_le _) (Nat.zero_le _) (Nat.zero_le _)).mono ?_
             rintro e w9 ⟨rfl,hb⟩
             have HX9:=qH (HXX.out.below hb)
             have HR9:=qH (HRX.out.below hb)
             have HY9:=qH (HYX.out.below hb)
             have HG9:=qH (grown_trans HGX.out (fg_below hb))
             clear hb HXX HRX HYX HGX
             have HEQ : Hid (rdDeed u (a,false) = (⟨1,n2,n3,n4,n5,0,⟨#[]⟩,⟨#[]⟩,0,⟨#[]⟩⟩,(p5,false))):=qH (by simp only [rdDeed,HRC.out,rcConf,HE.out,HE2.out,HE3.out,HE4.out,HE5.out])
             obtain ⟨ob,hob⟩ : ∃ ob,deedB 1 n2 n3 n4 n5 0 (⟨#[]⟩) (⟨#[]⟩) 0 (⟨#[]⟩) = ob:=⟨_,rfl⟩
             rw [hob]
             have HOB:=qH hob
             clear hob
             cases ob
             · go_wp2_with fail
               refine (must_no _).mono ?_
               rintro e w10 ⟨rfl,rfl⟩
               go_wp2_with fail
               exact ⟨rfl,Or.inr ⟨by unfold okDeed;rw [HEQ.out];exact HOB.out,rfl⟩,HG9.out⟩
             · go_wp2_with fail
               refine (must_yes _).mono ?_
               rintro e w10 ⟨rfl,rfl⟩
               have x0:=HX9.out.cell 0 _ rfl
               have x1:=HX9.out.cell 1 _ rfl
               have x2:=HX9.out.cell 2 _ rfl
               have x3:=HX9.out.cell 3 _ rfl
               have x4:=HX9.out.cell 4 _ rfl
               have x5:=HX9.out.cell 5 _ rfl
               have x6:=HX9.out.cell 6 _ rfl
               have x7:=HX9.out.cell 7 _ rfl
               have x8:=HX9.out.cell 8 _ rfl
               have x9:=HX9.out.cell 9 _ rfl
               have y0:=HY9.out.cell 0 _ rfl
               have fy0:=HY9.out.free 0
               have y1:=HY9.out.cell 1 _ rfl
               have fy1:=HY9.out.free 1
               have y2:=HY9.out.cell 2 _ rfl
               have fy2:=HY9.out.free 2
               have y3:=HY9.out.cell 3 _ rfl
               have fy3:=HY9.out.free 3
               have y4:=HY9.out.cell 4 _ rfl
               have fy4:=HY9.out.free 4
               have y5:=HY9.out.cell 5 _ rfl
               have fy5:=HY9.out.free 5
               have y6:=HY9.out.cell 6 _ rfl
               have fy6:=HY9.out.free 6
               have y7:=HY9.out.cell 7 _ rfl
               have fy7:=HY9.out.free 7
               have y8:=HY9.out.cell 8 _ rfl
               have fy8:=HY9.out.free 8
               have y9:=HY9.out.cell 9 _ rfl
               have fy9:=HY9.out.free 9
               have hly:=HY9.out.lt
               go_wp2_with fail
               exact bodyPost_ret (v:=.agg #[.int .i64 1,.int .i64 n2,.int .i64 n3,.int .i64 n4,.int .i64 n5,.int .i64 0,.string ⟨#[]⟩,.string ⟨#[]⟩,.int .i64 0,.string ⟨#[]⟩]) (by simp [results,Tryz.results130,go_sem,y0,y1,y2,y3,y4,y5,y6,y7,y8,y9]) rfl ⟨Or.inl ⟨by rw [okDeed_iff,HEQ.out];exact ⟨rfl,HOB.out⟩,by rw [HEQ.out];rfl,by rw [HEQ.out];exact ((((((((((HR9.out.other h 0 (.int .i64 1) hne).other h 1 (.int .i64 n2) hne).other h 2 (.int .i64 n3) hne).other h 3 (.int .i64 n4) hne).other h 4 (.int .i64 n5) hne).other h 5 (.int .i64 0) hne).other h 6 (.string ⟨#[]⟩) hne).other h 7 (.string ⟨#[]⟩) hne).other h 8 (.int .i64 0) hne).other h 9 (.string ⟨#[]⟩) hne)⟩,grown_own (grown_own (grown_own (grown_own (grown_own (grown_own (grown_own (grown_own (grown_own (grown_own (HG9.out) (grown_set _ h 0 (.int .i64 1)) (fun g hg => by cases hg;exact HHW.out)) (grown_set _ h 1 (.int .i64 n2)) (fun g hg => by cases hg;exact HHW.out)) (grown_set _ h 2 (.int .i64 n3)) (fun g hg => by cases hg;exact HHW.out)) (grown_set _ h 3 (.int .i64 n4)) (fun g hg => by cases hg;exact HHW.out)) (grown_set _ h 4 (.int .i64 n5)) (fun g hg => by cases hg;exact HHW.out)) (grown_set _ h 5 (.int .i64 0)) (fun g hg => by cases hg;exact HHW.out)) (grown_set _ h 6 (.string ⟨#[]⟩)) (fun g hg => by cases hg;exact HHW.out)) (grown_set _ h 7 (.string ⟨#[]⟩)) (fun g hg => by cases hg;exact HHW.out)) (grown_set _ h 8 (.int .i64 0)) (fun g hg => by cases hg;exact HHW.out)) (grown_set _ h 9 (.string ⟨#[]⟩)) (fun g hg => by cases hg;exact HHW.out)⟩
           · skip
             have HNO:=qH (sN_no (u:=u) (q:=(p4,false)) hc)
             refine (num_bad b u p4 _ HR4.out hu hp4 hc).mono ?_
             rintro e wz ⟨rfl,hb⟩
             have HGz:=qH (grown_trans HG4.out (fg_below hb))
             clear hb hc
             go_wp2_with fail
             exact ⟨rfl,Or.inr ⟨okDeed_bad (by simp only [rdDeed,HRC.out,rcConf,HE.out,HE2.out,HE3.out,HE4.out,HNO.out];try (repeat (first | rfl | refine sN_bad ?_ | refine sT_bad ?_))),rfl⟩,HGz.out⟩
         · skip
           have HNO:=qH (sN_no (u:=u) (q:=(p3,false)) hc)
           refine (num_bad b u p3 _ HR3.out hu hp3 hc).mono ?_
           rintro e wz ⟨rfl,hb⟩
           have HGz:=qH (grown_trans HG3.out (fg_below hb))
           clear hb hc
           go_wp2_with fail
           exact ⟨rfl,Or.inr ⟨okDeed_bad (by simp only [rdDeed,HRC.out,rcConf,HE.out,HE2.out,HE3.out,HNO.out];try (repeat (first | rfl | refine sN_bad ?_ | refine sT_bad ?_))),rfl⟩,HGz.out⟩
       · skip
         have HNO:=qH (sN_no (u:=u) (q:=(p2,false)) hc)
         refine (num_bad b u p2 _ HR2.out hu hp2 hc).mono ?_
         rintro e wz ⟨rfl,hb⟩
         have HGz:=qH (grown_trans HG2.out (fg_below hb))
         clear hb hc
         go_wp2_with fail
         exact ⟨rfl,Or.inr ⟨okDeed_bad (by simp only [rdDeed,HRC.out,rcConf,HE.out,HE2.out,HNO.out];try (repeat (first | rfl | refine sN_bad ?_ | refine sT_bad ?_))),rfl⟩,HGz.out⟩
     · skip
       have HNO:=qH (sN_no (u:=u) (q:=(p1,false)) hc)
       refine (num_bad b u p1 _ HR1.out hu hp1 hc).mono ?_
       rintro e wz ⟨rfl,hb⟩
       have HGz:=qH (grown_trans HG1.out (fg_below hb))
       clear hb hc
       go_wp2_with fail
       exact ⟨rfl,Or.inr ⟨okDeed_bad (by simp only [rdDeed,HRC.out,rcConf,HE.out,HNO.out];try (repeat (first | rfl | refine sN_bad ?_ | refine sT_bad ?_))),rfl⟩,HGz.out⟩
   · skip
     by_cases hk2 : k = 2
     · skip
       subst hk2
       have HRC : Hid (∀ q,rcRest u 2 q = rcTerm u 2 q):=qH (fun q => by unfold rcRest;simp)
       go_wp2_with fail
       rw [<- hV,<- hx]
       clear hV hx
       by_cases hc : (rdS u p1 10 0 0).2.2 = 0
       · skip
         obtain ⟨n2,p2,he2,hy,hp2⟩:=sN_step hc
         have HE2:=qH he2
         have HY:=qH hy
         clear hc hy he2
         refine (num_ok b u p1 p2 n2 _ HR1.out hu hp1 HY.out).mono ?_
         rintro e w2 ⟨rfl,hr,hg⟩
         have HR2:=qH hr
         have HY2:=qH (HY1.out.kept hg hne)
         have HX2:=qH (HX1.out.kept hg hxb)
         have HG2:=qH (grown_trans HG1.out hg)
         clear hr hg HY HY1 HX1
         go_wp2_with fail
         by_cases hc : (txtS u p2).2.2 = 0
         · skip
           obtain ⟨t3,p3,he3,hy,hp3,hz3⟩:=sT_step hu hc
           have HZ3:=qH hz3
           have HE3:=qH he3
           have HY:=qH hy
           clear hc hy he3 hz3
           refine (text_ok b u p2 p3 t3 _ HR2.out hu hp2 HY.out).mono ?_
           rintro e w3 ⟨rfl,hr,hg⟩
           have HR3:=qH hr
           have HY3:=qH (HY2.out.kept hg hne)
           have HX3:=qH (HX2.out.kept hg hxb)
           have HG3:=qH (grown_trans HG2.out hg)
           clear hr hg HY HY2 HX2
           have x0:=HX3.out.cell 0 _ rfl
           have fx0:=HX3.out.free 0
           have x1:=HX3.out.cell 1 _ rfl
           have fx1:=HX3.out.free 1
           have x2:=HX3.out.cell 2 _ rfl
           have fx2:=HX3.out.free 2
           have x3:=HX3.out.cell 3 _ rfl
           have fx3:=HX3.out.free 3
           have x4:=HX3.out.cell 4 _ rfl
           have fx4:=HX3.out.free 4
           have x5:=HX3.out.cell 5 _ rfl
           have fx5:=HX3.out.free 5
           have x6:=HX3.out.cell 6 _ rfl
           have fx6:=HX3.out.free 6
           have x7:=HX3.out.cell 7 _ rfl
           have fx7:=HX3.out.free 7
           have x8:=HX3.out.cell 8 _ rfl
           have fx8:=HX3.out.free 8
           have x9:=HX3.out.cell 9 _ rfl
           have fx9:=HX3.out.free 9
           obtain ⟨X,hX⟩ : ∃ X,X = (w3.setCell ⟨x,5,none⟩ (.int .i64 n2)).setCell ⟨x,6,none⟩ (.string t3):=⟨_,rfl⟩
           have HXX:=qH (show BoxC X x [.int .i64 2,.int .i64 0,.int .i64 0,.int .i64 0,.int .i64 0,.int .i64 n2,.string t3,.string ⟨#[]⟩,.int .i64 0,.string ⟨#[]⟩] by rw [hX];exact ((HX3.out.set (j:=5) (by simp) (.int .i64 n2)).set (j:=6) (by simp) (.string t3)))
           have HRX:=qH (show RB X b u (p3 : Int) by rw [hX];exact ((HR3.out.other x 5 (.int .i64 n2) hxb).other x 6 (.string t3) hxb))
           have HYX:=qH (show BoxC X h [.int .i64 0,.int .i64 0,.int .i64 0,.int .i64 0,.int .i64 0,.int .i64 0,.string ⟨#[]⟩,.string ⟨#[]⟩,.int .i64 0,.string ⟨#[]⟩] by rw [hX];exact ((HY3.out.other ⟨x,5,none⟩ (.int .i64 n2) (by show x ≠ h;omega)).other ⟨x,6,none⟩ (.string t3) (by show x ≠ h;omega)))
           have HGX:=qH (show w.grownBy X (some b) by rw [hX];exact grown_own (grown_own (HG3.out) (grown_set _ x 5 _) (fun g hg => by cases hg;have:=HHW.out;omega)) (grown_set _ x 6 _) (fun g hg => by cases hg;have:=HHW.out;omega))
           have hlx:=HX3.out.lt
           clear HR3 HX3 HY3
           go_wp2_with fail
           rw [<- hX]
           clear hX x0 fx0 x1 fx1 x2 fx2 x3 fx3 x4 fx4 x5 fx5 x6 fx6 x7 fx7 x8 fx8 x9 fx9 hlx
           refine (implDeedRight_any 2 0 0 0 0 n2 t3 (⟨#[]⟩) 0 (⟨#[]⟩) _ HZ3.out (Nat.zero_le _) (Nat.zero_le _)).mono ?_
           rintro e w9 ⟨rfl,hb⟩
           have HX9:=qH (HXX.out.below hb)
           have HR9:=qH (HRX.out.below hb)
           have HY9:=qH (HYX.out.below hb)
           have HG9:=qH (grown_trans HGX.out (fg_below hb))
           clear hb HXX HRX HYX HGX
           have HEQ : Hid (rdDeed u (a,false) = (⟨2,0,0,0,0,n2,t3,⟨#[]⟩,0,⟨#[]⟩⟩,(p3,false))):=qH (by simp only [rdDeed,HRC.out,rcTerm,HE.out,HE2.out,HE3.out])
           obtain ⟨ob,hob⟩ : ∃ ob,deedB 2 0 0 0 0 n2 t3 (⟨#[]⟩) 0 (⟨#[]⟩) = ob:=⟨_,rfl⟩
           rw [hob]
           have HOB:=qH hob
           clear hob
           cases ob
           · go_wp2_with fail
             refine (must_no _).mono ?_
             rintro e w10 ⟨rfl,rfl⟩
             go_wp2_with fail
             exact ⟨rfl,Or.inr ⟨by unfold okDeed;rw [HEQ.out];exact HOB.out,rfl⟩,HG9.out⟩
           · go_wp2_with fail
             refine (must_yes _).mono ?_
             rintro e w10 ⟨rfl,rfl⟩
             have x0:=HX9.out.cell 0 _ rfl
             have x1:=HX9.out.cell 1 _ rfl
             have x2:=HX9.out.cell 2 _ rfl
             have x3:=HX9.out.cell 3 _ rfl
             have x4:=HX9.out.cell 4 _ rfl
             have x5:=HX9.out.cell 5 _ rfl
             have x6:=HX9.out.cell 6 _ rfl
             have x7:=HX9.out.cell 7 _ rfl
             have x8:=HX9.out.cell 8 _ rfl
             have x9:=HX9.out.cell 9 _ rfl
             have y0:=HY9.out.cell 0 _ rfl
             have fy0:=HY9.out.free 0
             have y1:=HY9.out.cell 1 _ rfl
             have fy1:=HY9.out.free 1
             have y2:=HY9.out.cell 2 _ rfl
             have fy2:=HY9.out.free 2
             have y3:=HY9.out.cell 3 _ rfl
             have fy3:=HY9.out.free 3
             have y4:=HY9.out.cell 4 _ rfl
             have fy4:=HY9.out.free 4
             have y5:=HY9.out.cell 5 _ rfl
             have fy5:=HY9.out.free 5
             have y6:=HY9.out.cell 6 _ rfl
             have fy6:=HY9.out.free 6
             have y7:=HY9.out.cell 7 _ rfl
             have fy7:=HY9.out.free 7
             have y8:=HY9.out.cell 8 _ rfl
             have fy8:=HY9.out.free 8
             have y9:=HY9.out.cell 9 _ rfl
             have fy9:=HY9.out.free 9
             have hly:=HY9.out.lt
             go_wp2_with fail
             exact bodyPost_ret (v:=.agg #[.int .i64 2,.int .i64 0,.int .i64 0,.int .i64 0,.int .i64 0,.int .i64 n2,.string t3,.string ⟨#[]⟩,.int .i64 0,.string ⟨#[]⟩]) (by simp [results,Tryz.results130,go_sem,y0,y1,y2,y3,y4,y5,y6,y7,y8,y9]) rfl ⟨Or.inl ⟨by rw [okDeed_iff,HEQ.out];exact ⟨rfl,HOB.out⟩,by rw [HEQ.out];rfl,by rw [HEQ.out];exact ((((((((((HR9.out.other h 0 (.int .i64 2) hne).other h 1 (.int .i64 0) hne).other h 2 (.int .i64 0) hne).other h 3 (.int .i64 0) hne).other h 4 (.int .i64 0) hne).other h 5 (.int .i64 n2) hne).other h 6 (.string t3) hne).other h 7 (.string ⟨#[]⟩) hne).other h 8 (.int .i64 0) hne).other h 9 (.string ⟨#[]⟩) hne)⟩,grown_own (grown_own (grown_own (grown_own (grown_own (grown_own (grown_own (grown_own (grown_own (grown_own (HG9.out) (grown_set _ h 0 (.int .i64 2)) (fun g hg => by cases hg;exact HHW.out)) (grown_set _ h 1 (.int .i64 0)) (fun g hg => by cases hg;exact HHW.out)) (grown_set _ h 2 (.int .i64 0)) (fun g hg => by cases hg;exact HHW.out)) (grown_set _ h 3 (.int .i64 0)) (fun g hg => by cases hg;exact HHW.out)) (grown_set _ h 4 (.int .i64 0)) (fun g hg => by cases hg;exact HHW.out)) (grown_set _ h 5 (.int .i64 n2)) (fun g hg => by cases hg;exact HHW.out)) (grown_set _ h 6 (.string t3)) (fun g hg => by cases hg;exact HHW.out)) (grown_set _ h 7 (.string ⟨#[]⟩)) (fun g hg => by cases hg;exact HHW.out)) (grown_set _ h 8 (.int .i64 0)) (fun g hg => by cases hg;exact HHW.out)) (grown_set _ h 9 (.string ⟨#[]⟩)) (fun g hg => by cases hg;exact HHW.out)⟩
         · skip
           have HNO:=qH (sT_no (u:=u) (q:=(p2,false)) hc)
           refine (text_bad b u p2 _ HR2.out hu hp2 hc).mono ?_
           rintro e wz ⟨rfl,hb⟩
           have HGz:=qH (grown_trans HG2.out (fg_below hb))
           clear hb hc
           go_wp2_with fail
           exact ⟨rfl,Or.inr ⟨okDeed_bad (by simp only [rdDeed,HRC.out,rcTerm,HE.out,HE2.out,HNO.out];try (repeat (first | rfl | refine sN_bad ?_ | refine sT_bad ?_))),rfl⟩,HGz.out⟩
       · skip
         have HNO:=qH (sN_no (u:=u) (q:=(p1,false)) hc)
         refine (num_bad b u p1 _ HR1.out hu hp1 hc).mono ?_
         rintro e wz ⟨rfl,hb⟩
         have HGz:=qH (grown_trans HG1.out (fg_below hb))
         clear hb hc
         go_wp2_with fail
         exact ⟨rfl,Or.inr ⟨okDeed_bad (by simp only [rdDeed,HRC.out,rcTerm,HE.out,HNO.out];try (repeat (first | rfl | refine sN_bad ?_ | refine sT_bad ?_))),rfl⟩,HGz.out⟩
     · skip
       by_cases hk3 : k = 3
       · skip
         subst hk3
         have HRC : Hid (∀ q,rcRest u 3 q = rcPut u 3 q):=qH (fun q => by unfold rcRest;simp)
         go_wp2_with fail
         rw [<- hV,<- hx]
         clear hV hx
         by_cases hc : (txtS u p1).2.2 = 0
         · skip
           obtain ⟨t2,p2,he2,hy,hp2,hz2⟩:=sT_step hu hc
           have HZ2:=qH hz2
           have HE2:=qH he2
           have HY:=qH hy
           clear hc hy he2 hz2
           refine (text_ok b u p1 p2 t2 _ HR1.out hu hp1 HY.out).mono ?_
           rintro e w2 ⟨rfl,hr,hg⟩
           have HR2:=qH hr
           have HY2:=qH (HY1.out.kept hg hne)
           have HX2:=qH (HX1.out.kept hg hxb)
           have HG2:=qH (grown_trans HG1.out hg)
           clear hr hg HY HY1 HX1
           go_wp2_with fail
           by_cases hc : (rdS u p2 10 0 0).2.2 = 0
           · skip
             obtain ⟨n3,p3,he3,hy,hp3⟩:=sN_step hc
             have HE3:=qH he3
             have HY:=qH hy
             clear hc hy he3
             refine (num_ok b u p2 p3 n3 _ HR2.out hu hp2 HY.out).mono ?_
             rintro e w3 ⟨rfl,hr,hg⟩
             have HR3:=qH hr
             have HY3:=qH (HY2.out.kept hg hne)
             have HX3:=qH (HX2.out.kept hg hxb)
             have HG3:=qH (grown_trans HG2.out hg)
             clear hr hg HY HY2 HX2
             go_wp2_with fail
             by_cases hc : (txtS u p3).2.2 = 0
             · skip
               obtain ⟨t4,p4,he4,hy,hp4,hz4⟩:=sT_step hu hc
               have HZ4:=qH hz4
               have HE4:=qH he4
               have HY:=qH hy
               clear hc hy he4 hz4
               refine (text_ok b u p3 p4 t4 _ HR3.out hu hp3 HY.out).mono ?_
               rintro e w4 ⟨rfl,hr,hg⟩
               have HR4:=qH hr
               have HY4:=qH (HY3.out.kept hg hne)
               have HX4:=qH (HX3.out.kept hg hxb)
               have HG4:=qH (grown_trans HG3.out hg)
               clear hr hg HY HY3 HX3
               have x0:=HX4.out.cell 0 _ rfl
               have fx0:=HX4.out.free 0
               have x1:=HX4.out.cell 1 _ rfl
               have fx1:=HX4.out.free 1
               have x2:=HX4.out.cell 2 _ rfl
               have fx2:=HX4.out.free 2
               have x3:=HX4.out.cell 3 _ rfl
               have fx3:=HX4.out.free 3
               have x4:=HX4.out.cell 4 _ rfl
               have fx4:=HX4.out.free 4
               have x5:=HX4.out.cell 5 _ rfl
               have fx5:=HX4.out.free 5
               have x6:=HX4.out.cell 6 _ rfl
               have fx6:=HX4.out.free 6
               have x7:=HX4.out.cell 7 _ rfl
               have fx7:=HX4.out.free 7
               have x8:=HX4.out.cell 8 _ rfl
               have fx8:=HX4.out.free 8
               have x9:=HX4.out.cell 9 _ rfl
               have fx9:=HX4.out.free 9
               obtain ⟨X,hX⟩ : ∃ X,X = ((w4.setCell ⟨x,7,none⟩ (.string t2)).setCell ⟨x,8,none⟩ (.int .i64 n3)).setCell ⟨x,9,none⟩ (.string t4):=⟨_,rfl⟩
               have HXX:=qH (show BoxC X x [.int .i64 3,.int .i64 0,.int .i64 0,.int .i64 0,.int .i64 0,.int .i64 0,.string ⟨#[]⟩,.string t2,.int .i64 n3,.string t4] by rw [hX];exact (((HX4.out.set (j:=7) (by simp) (.string t2)).set (j:=8) (by simp) (.int .i64 n3)).set (j:=9) (by simp) (.string t4)))
               have HRX:=qH (show RB X b u (p4 : Int) by rw [hX];exact (((HR4.out.other x 7 (.string t2) hxb).other x 8 (.int .i64 n3) hxb).other x 9 (.string t4) hxb))
               have HYX:=qH (show BoxC X h [.int .i64 0,.int .i64 0,.int .i64 0,.int .i64 0,.int .i64 0,.int .i64 0,.string ⟨#[]⟩,.string ⟨#[]⟩,.int .i64 0,.string ⟨#[]⟩] by rw [hX];exact (((HY4.out.other ⟨x,7,none⟩ (.string t2) (by show x ≠ h;omega)).other ⟨x,8,none⟩ (.int .i64 n3) (by show x ≠ h;omega)).other ⟨x,9,none⟩ (.string t4) (by show x ≠ h;omega)))
               have HGX:=qH (show w.grownBy X (some b) by rw [hX];exact grown_own (grown_own (grown_own (HG4.out) (grown_set _ x 7 _) (fun g hg => by cases hg;have:=HHW.out;omega)) (grown_set _ x 8 _) (fun g hg => by cases hg;have:=HHW.out;omega)) (grown_set _ x 9 _) (fun g hg => by cases hg;have:=HHW.out;omega))
               have hlx:=HX4.out.lt
               clear HR4 HX4 HY4
               go_wp2_with fail
               rw [<- hX]
               clear hX x0 fx0 x1 fx1 x2 fx2 x3 fx3 x4 fx4 x5 fx5 x6 fx6 x7 fx7 x8 fx8 x9 fx9 hlx
               refine (implDeedRight_any 3 0 0 0 0 0 (⟨#[]⟩) t2 n3 t4 _ (Nat.zero_le _) HZ2.out HZ4.out).mono ?_
               rintro e w9 ⟨rfl,hb⟩
               have HX9:=qH (HXX.out.below hb)
               have HR9:=qH (HRX.out.below hb)
               have HY9:=qH (HYX.out.below hb)
               have HG9:=qH (grown_trans HGX.out (fg_below hb))
               clear hb HXX HRX HYX HGX
               have HEQ : Hid (rdDeed u (a,false) = (⟨3,0,0,0,0,0,⟨#[]⟩,t2,n3,t4⟩,(p4,false))):=qH (by simp only [rdDeed,HRC.out,rcPut,HE.out,HE2.out,HE3.out,HE4.out])
               obtain ⟨ob,hob⟩ : ∃ ob,deedB 3 0 0 0 0 0 (⟨#[]⟩) t2 n3 t4 = ob:=⟨_,rfl⟩
               rw [hob]
               have HOB:=qH hob
               clear hob
               cases ob
               · go_wp2_with fail
                 refine (must_no _).mono ?_
                 rintro e w10 ⟨rfl,rfl⟩
                 go_wp2_with fail
                 exact ⟨rfl,Or.inr ⟨by unfold okDeed;rw [HEQ.out];exact HOB.out,rfl⟩,HG9.out⟩
               · go_wp2_with fail
                 refine (must_yes _).mono ?_
                 rintro e w10 ⟨rfl,rfl⟩
                 have x0:=HX9.out.cell 0 _ rfl
                 have x1:=HX9.out.cell 1 _ rfl
                 have x2:=HX9.out.cell 2 _ rfl
                 have x3:=HX9.out.cell 3 _ rfl
                 have x4:=HX9.out.cell 4 _ rfl
                 have x5:=HX9.out.cell 5 _ rfl
                 have x6:=HX9.out.cell 6 _ rfl
                 have x7:=HX9.out.cell 7 _ rfl
                 have x8:=HX9.out.cell 8 _ rfl
                 have x9:=HX9.out.cell 9 _ rfl
                 have y0:=HY9.out.cell 0 _ rfl
                 have fy0:=HY9.out.free 0
                 have y1:=HY9.out.cell 1 _ rfl
                 have fy1:=HY9.out.free 1
                 have y2:=HY9.out.cell 2 _ rfl
                 have fy2:=HY9.out.free 2
                 have y3:=HY9.out.cell 3 _ rfl
                 have fy3:=HY9.out.free 3
                 have y4:=HY9.out.cell 4 _ rfl
                 have fy4:=HY9.out.free 4
                 have y5:=HY9.out.cell 5 _ rfl
                 have fy5:=HY9.out.free 5
                 have y6:=HY9.out.cell 6 _ rfl
                 have fy6:=HY9.out.free 6
                 have y7:=HY9.out.cell 7 _ rfl
                 have fy7:=HY9.out.free 7
                 have y8:=HY9.out.cell 8 _ rfl
                 have fy8:=HY9.out.free 8
                 have y9:=HY9.out.cell 9 _ rfl
                 have fy9:=HY9.out.free 9
                 have hly:=HY9.out.lt
                 go_wp2_with fail
                 exact bodyPost_ret (v:=.agg #[.int .i64 3,.int .i64 0,.int .i64 0,.int .i64 0,.int .i64 0,.int .i64 0,.string ⟨#[]⟩,.string t2,.int .i64 n3,.string t4]) (by simp [results,Tryz.results130,go_sem,y0,y1,y2,y3,y4,y5,y6,y7,y8,y9]) rfl ⟨Or.inl ⟨by rw [okDeed_iff,HEQ.out];exact ⟨rfl,HOB.out⟩,by rw [HEQ.out];rfl,by rw [HEQ.out];exact ((((((((((HR9.out.other h 0 (.int .i64 3) hne).other h 1 (.int .i64 0) hne).other h 2 (.int .i64 0) hne).other h 3 (.int .i64 0) hne).other h 4 (.int .i64 0) hne).other h 5 (.int .i64 0) hne).other h 6 (.string ⟨#[]⟩) hne).other h 7 (.string t2) hne).other h 8 (.int .i64 n3) hne).other h 9 (.string t4) hne)⟩,grown_own (grown_own (grown_own (grown_own (grown_own (grown_own (grown_own (grown_own (grown_own (grown_own (HG9.out) (grown_set _ h 0 (.int .i64 3)) (fun g hg => by cases hg;exact HHW.out)) (grown_set _ h 1 (.int .i64 0)) (fun g hg => by cases hg;exact HHW.out)) (grown_set _ h 2 (.int .i64 0)) (fun g hg => by cases hg;exact HHW.out)) (grown_set _ h 3 (.int .i64 0)) (fun g hg => by cases hg;exact HHW.out)) (grown_set _ h 4 (.int .i64 0)) (fun g hg => by cases hg;exact HHW.out)) (grown_set _ h 5 (.int .i64 0)) (fun g hg => by cases hg;exact HHW.out)) (grown_set _ h 6 (.string ⟨#[]⟩)) (fun g hg => by cases hg;exact HHW.out)) (grown_set _ h 7 (.string t2)) (fun g hg => by cases hg;exact HHW.out)) (grown_set _ h 8 (.int .i64 n3)) (fun g hg => by cases hg;exact HHW.out)) (grown_set _ h 9 (.string t4)) (fun g hg => by cases hg;exact HHW.out)⟩
             · skip
               have HNO:=qH (sT_no (u:=u) (q:=(p3,false)) hc)
               refine (text_bad b u p3 _ HR3.out hu hp3 hc).mono ?_
               rintro e wz ⟨rfl,hb⟩
               have HGz:=qH (grown_trans HG3.out (fg_below hb))
               clear hb hc
               go_wp2_with fail
               exact ⟨rfl,Or.inr ⟨okDeed_bad (by simp only [rdDeed,HRC.out,rcPut,HE.out,HE2.out,HE3.out,HNO.out];try (repeat (first | rfl | refine sN_bad ?_ | refine sT_bad ?_))),rfl⟩,HGz.out⟩
           · skip
             have HNO:=qH (sN_no (u:=u) (q:=(p2,false)) hc)
             refine (num_bad b u p2 _ HR2.out hu hp2 hc).mono ?_
             rintro e wz ⟨rfl,hb⟩
             have HGz:=qH (grown_trans HG2.out (fg_below hb))
             clear hb hc
             go_wp2_with fail
             exact ⟨rfl,Or.inr ⟨okDeed_bad (by simp only [rdDeed,HRC.out,rcPut,HE.out,HE2.out,HNO.out];try (repeat (first | rfl | refine sN_bad ?_ | refine sT_bad ?_))),rfl⟩,HGz.out⟩
         · skip
           have HNO:=qH (sT_no (u:=u) (q:=(p1,false)) hc)
           refine (text_bad b u p1 _ HR1.out hu hp1 hc).mono ?_
           rintro e wz ⟨rfl,hb⟩
           have HGz:=qH (grown_trans HG1.out (fg_below hb))
           clear hb hc
           go_wp2_with fail
           exact ⟨rfl,Or.inr ⟨okDeed_bad (by simp only [rdDeed,HRC.out,rcPut,HE.out,HNO.out];try (repeat (first | rfl | refine sN_bad ?_ | refine sT_bad ?_))),rfl⟩,HGz.out⟩
       · skip
         by_cases hk4 : k = 4
         · skip
           subst hk4
           have HRC : Hid (∀ q,rcRest u 4 q = rcDel u 4 q):=qH (fun q => by unfold rcRest;simp)
           go_wp2_with fail
           rw [<- hV,<- hx]
           clear hV hx
           by_cases hc : (txtS u p1).2.2 = 0
           · skip
             obtain ⟨t2,p2,he2,hy,hp2,hz2⟩:=sT_step hu hc
             have HZ2:=qH hz2
             have HE2:=qH he2
             have HY:=qH hy
             clear hc hy he2 hz2
             refine (text_ok b u p1 p2 t2 _ HR1.out hu hp1 HY.out).mono ?_
             rintro e w2 ⟨rfl,hr,hg⟩
             have HR2:=qH hr
             have HY2:=qH (HY1.out.kept hg hne)
             have HX2:=qH (HX1.out.kept hg hxb)
             have HG2:=qH (grown_trans HG1.out hg)
             clear hr hg HY HY1 HX1
             have x0:=HX2.out.cell 0 _ rfl
             have fx0:=HX2.out.free 0
             have x1:=HX2.out.cell 1 _ rfl
             have fx1:=HX2.out.free 1
             have x2:=HX2.out.cell 2 _ rfl
             have fx2:=HX2.out.free 2
             have x3:=HX2.out.cell 3 _ rfl
             have fx3:=HX2.out.free 3
             have x4:=HX2.out.cell 4 _ rfl
             have fx4:=HX2.out.free 4
             have x5:=HX2.out.cell 5 _ rfl
             have fx5:=HX2.out.free 5
             have x6:=HX2.out.cell 6 _ rfl
             have fx6:=HX2.out.free 6
             have x7:=HX2.out.cell 7 _ rfl
             have fx7:=HX2.out.free 7
             have x8:=HX2.out.cell 8 _ rfl
             have fx8:=HX2.out.free 8
             have x9:=HX2.out.cell 9 _ rfl
             have fx9:=HX2.out.free 9
             obtain ⟨X,hX⟩ : ∃ X,X = w2.setCell ⟨x,7,none⟩ (.string t2):=⟨_,rfl⟩
             have HXX:=qH (show BoxC X x [.int .i64 4,.int .i64 0,.int .i64 0,.int .i64 0,.int .i64 0,.int .i64 0,.string ⟨#[]⟩,.string t2,.int .i64 0,.string ⟨#[]⟩] by rw [hX];exact (HX2.out.set (j:=7) (by simp) (.string t2)))
             have HRX:=qH (show RB X b u (p2 : Int) by rw [hX];exact (HR2.out.other x 7 (.string t2) hxb))
             have HYX:=qH (show BoxC X h [.int .i64 0,.int .i64 0,.int .i64 0,.int .i64 0,.int .i64 0,.int .i64 0,.string ⟨#[]⟩,.string ⟨#[]⟩,.int .i64 0,.string ⟨#[]⟩] by rw [hX];exact (HY2.out.other ⟨x,7,none⟩ (.string t2) (by show x ≠ h;omega)))
             have HGX:=qH (show w.grownBy X (some b) by rw [hX];exact grown_own (HG2.out) (grown_set _ x 7 _) (fun g hg => by cases hg;have:=HHW.out;omega))
             have hlx:=HX2.out.lt
             clear HR2 HX2 HY2
             go_wp2_with fail
             rw [<- hX]
             clear hX x0 fx0 x1 fx1 x2 fx2 x3 fx3 x4 fx4 x5 fx5 x6 fx6 x7 fx7 x8 fx8 x9 fx9 hlx
             refine (implDeedRight_any 4 0 0 0 0 0 (⟨#[]⟩) t2 0 (⟨#[]⟩) _ (Nat.zero_le _) HZ2.out (Nat.zero_le _)).mono ?_
             rintro e w9 ⟨rfl,hb⟩
             have HX9:=qH (HXX.out.below hb)
             have HR9:=qH (HRX.out.below hb)
             have HY9:=qH (HYX.out.below hb)
             have HG9:=qH (grown_trans HGX.out (fg_below hb))
             clear hb HXX HRX HYX HGX
             have HEQ : Hid (rdDeed u (a,false) = (⟨4,0,0,0,0,0,⟨#[]⟩,t2,0,⟨#[]⟩⟩,(p2,false))):=qH (by simp only [rdDeed,HRC.out,rcDel,HE.out,HE2.out])
             obtain ⟨ob,hob⟩ : ∃ ob,deedB 4 0 0 0 0 0 (⟨#[]⟩) t2 0 (⟨#[]⟩) = ob:=⟨_,rfl⟩
             rw [hob]
             have HOB:=qH hob
             clear hob
             cases ob
             · go_wp2_with fail
               refine (must_no _).mono ?_
               rintro e w10 ⟨rfl,rfl⟩
               go_wp2_with fail
               exact ⟨rfl,Or.inr ⟨by unfold okDeed;rw [HEQ.out];exact HOB.out,rfl⟩,HG9.out⟩
             · go_wp2_with fail
               refine (must_yes _).mono ?_
               rintro e w10 ⟨rfl,rfl⟩
               have x0:=HX9.out.cell 0 _ rfl
               have x1:=HX9.out.cell 1 _ rfl
               have x2:=HX9.out.cell 2 _ rfl
               have x3:=HX9.out.cell 3 _ rfl
               have x4:=HX9.out.cell 4 _ rfl
               have x5:=HX9.out.cell 5 _ rfl
               have x6:=HX9.out.cell 6 _ rfl
               have x7:=HX9.out.cell 7 _ rfl
               have x8:=HX9.out.cell 8 _ rfl
               have x9:=HX9.out.cell 9 _ rfl
               have y0:=HY9.out.cell 0 _ rfl
               have fy0:=HY9.out.free 0
               have y1:=HY9.out.cell 1 _ rfl
               have fy1:=HY9.out.free 1
               have y2:=HY9.out.cell 2 _ rfl
               have fy2:=HY9.out.free 2
               have y3:=HY9.out.cell 3 _ rfl
               have fy3:=HY9.out.free 3
               have y4:=HY9.out.cell 4 _ rfl
               have fy4:=HY9.out.free 4
               have y5:=HY9.out.cell 5 _ rfl
               have fy5:=HY9.out.free 5
               have y6:=HY9.out.cell 6 _ rfl
               have fy6:=HY9.out.free 6
               have y7:=HY9.out.cell 7 _ rfl
               have fy7:=HY9.out.free 7
               have y8:=HY9.out.cell 8 _ rfl
               have fy8:=HY9.out.free 8
               have y9:=HY9.out.cell 9 _ rfl
               have fy9:=HY9.out.free 9
               have hly:=HY9.out.lt
               go_wp2_with fail
               exact bodyPost_ret (v:=.agg #[.int .i64 4,.int .i64 0,.int .i64 0,.int .i64 0,.int .i64 0,.int .i64 0,.string ⟨#[]⟩,.string t2,.int .i64 0,.string ⟨#[]⟩]) (by simp [results,Tryz.results130,go_sem,y0,y1,y2,y3,y4,y5,y6,y7,y8,y9]) rfl ⟨Or.inl ⟨by rw [okDeed_iff,HEQ.out];exact ⟨rfl,HOB.out⟩,by rw [HEQ.out];rfl,by rw [HEQ.out];exact ((((((((((HR9.out.other h 0 (.int .i64 4) hne).other h 1 (.int .i64 0) hne).other h 2 (.int .i64 0) hne).other h 3 (.int .i64 0) hne).other h 4 (.int .i64 0) hne).other h 5 (.int .i64 0) hne).other h 6 (.string ⟨#[]⟩) hne).other h 7 (.string t2) hne).other h 8 (.int .i64 0) hne).other h 9 (.string ⟨#[]⟩) hne)⟩,grown_own (grown_own (grown_own (grown_own (grown_own (grown_own (grown_own (grown_own (grown_own (grown_own (HG9.out) (grown_set _ h 0 (.int .i64 4)) (fun g hg => by cases hg;exact HHW.out)) (grown_set _ h 1 (.int .i64 0)) (fun g hg => by cases hg;exact HHW.out)) (grown_set _ h 2 (.int .i64 0)) (fun g hg => by cases hg;exact HHW.out)) (grown_set _ h 3 (.int .i64 0)) (fun g hg => by cases hg;exact HHW.out)) (grown_set _ h 4 (.int .i64 0)) (fun g hg => by cases hg;exact HHW.out)) (grown_set _ h 5 (.int .i64 0)) (fun g hg => by cases hg;exact HHW.out)) (grown_set _ h 6 (.string ⟨#[]⟩)) (fun g hg => by cases hg;exact HHW.out)) (grown_set _ h 7 (.string t2)) (fun g hg => by cases hg;exact HHW.out)) (grown_set _ h 8 (.int .i64 0)) (fun g hg => by cases hg;exact HHW.out)) (grown_set _ h 9 (.string ⟨#[]⟩)) (fun g hg => by cases hg;exact HHW.out)⟩
           · skip
             have HNO:=qH (sT_no (u:=u) (q:=(p1,false)) hc)
             refine (text_bad b u p1 _ HR1.out hu hp1 hc).mono ?_
             rintro e wz ⟨rfl,hb⟩
             have HGz:=qH (grown_trans HG1.out (fg_below hb))
             clear hb hc
             go_wp2_with fail
             exact ⟨rfl,Or.inr ⟨okDeed_bad (by simp only [rdDeed,HRC.out,rcDel,HE.out,HNO.out];try (repeat (first | rfl | refine sN_bad ?_ | refine sT_bad ?_))),rfl⟩,HGz.out⟩
         · skip
           have ka : (k == 1) = false:=by simp [hk1]
           have kb : (k == 2) = false:=by simp [hk2]
           have kc : (k == 3) = false:=by simp [hk3]
           have kd : (k == 4) = false:=by simp [hk4]
           have HRC : Hid (∀ q,rcRest u k q = rcNone k q):=qH (fun q => by unfold rcRest;simp [hk1,hk2,hk3,hk4])
           go_wp2_with fail
           rw [<- hV,<- hx]
           clear hV hx
           have HXX:=HX1
           have HRX:=HR1
           have HYX:=HY1
           have HGX:=HG1
           refine (implDeedRight_any k 0 0 0 0 0 (⟨#[]⟩) (⟨#[]⟩) 0 (⟨#[]⟩) _ (Nat.zero_le _) (Nat.zero_le _) (Nat.zero_le _)).mono ?_
           rintro e w9 ⟨rfl,hb⟩
           have HX9:=qH (HXX.out.below hb)
           have HR9:=qH (HRX.out.below hb)
           have HY9:=qH (HYX.out.below hb)
           have HG9:=qH (grown_trans HGX.out (fg_below hb))
           clear hb HXX HRX HYX HGX
           have HEQ : Hid (rdDeed u (a,false) = (⟨k,0,0,0,0,0,⟨#[]⟩,⟨#[]⟩,0,⟨#[]⟩⟩,(p1,false))):=qH (by simp only [rdDeed,HRC.out,rcNone,HE.out])
           obtain ⟨ob,hob⟩ : ∃ ob,deedB k 0 0 0 0 0 (⟨#[]⟩) (⟨#[]⟩) 0 (⟨#[]⟩) = ob:=⟨_,rfl⟩
           rw [hob]
           have HOB:=qH hob
           clear hob
           cases ob
           · go_wp2_with fail
             refine (must_no _).mono ?_
             rintro e w10 ⟨rfl,rfl⟩
             go_wp2_with fail
             exact ⟨rfl,Or.inr ⟨by unfold okDeed;rw [HEQ.out];exact HOB.out,rfl⟩,HG9.out⟩
           · go_wp2_with fail
             refine (must_yes _).mono ?_
             rintro e w10 ⟨rfl,rfl⟩
             have x0:=HX9.out.cell 0 _ rfl
             have x1:=HX9.out.cell 1 _ rfl
             have x2:=HX9.out.cell 2 _ rfl
             have x3:=HX9.out.cell 3 _ rfl
             have x4:=HX9.out.cell 4 _ rfl
             have x5:=HX9.out.cell 5 _ rfl
             have x6:=HX9.out.cell 6 _ rfl
             have x7:=HX9.out.cell 7 _ rfl
             have x8:=HX9.out.cell 8 _ rfl
             have x9:=HX9.out.cell 9 _ rfl
             have y0:=HY9.out.cell 0 _ rfl
             have fy0:=HY9.out.free 0
             have y1:=HY9.out.cell 1 _ rfl
             have fy1:=HY9.out.free 1
             have y2:=HY9.out.cell 2 _ rfl
             have fy2:=HY9.out.free 2
             have y3:=HY9.out.cell 3 _ rfl
             have fy3:=HY9.out.free 3
             have y4:=HY9.out.cell 4 _ rfl
             have fy4:=HY9.out.free 4
             have y5:=HY9.out.cell 5 _ rfl
             have fy5:=HY9.out.free 5
             have y6:=HY9.out.cell 6 _ rfl
             have fy6:=HY9.out.free 6
             have y7:=HY9.out.cell 7 _ rfl
             have fy7:=HY9.out.free 7
             have y8:=HY9.out.cell 8 _ rfl
             have fy8:=HY9.out.free 8
             have y9:=HY9.out.cell 9 _ rfl
             have fy9:=HY9.out.free 9
             have hly:=HY9.out.lt
             go_wp2_with fail
             exact bodyPost_ret (v:=.agg #[.int .i64 k,.int .i64 0,.int .i64 0,.int .i64 0,.int .i64 0,.int .i64 0,.string ⟨#[]⟩,.string ⟨#[]⟩,.int .i64 0,.string ⟨#[]⟩]) (by simp [results,Tryz.results130,go_sem,y0,y1,y2,y3,y4,y5,y6,y7,y8,y9]) rfl ⟨Or.inl ⟨by rw [okDeed_iff,HEQ.out];exact ⟨rfl,HOB.out⟩,by rw [HEQ.out];rfl,by rw [HEQ.out];exact ((((((((((HR9.out.other h 0 (.int .i64 k) hne).other h 1 (.int .i64 0) hne).other h 2 (.int .i64 0) hne).other h 3 (.int .i64 0) hne).other h 4 (.int .i64 0) hne).other h 5 (.int .i64 0) hne).other h 6 (.string ⟨#[]⟩) hne).other h 7 (.string ⟨#[]⟩) hne).other h 8 (.int .i64 0) hne).other h 9 (.string ⟨#[]⟩) hne)⟩,grown_own (grown_own (grown_own (grown_own (grown_own (grown_own (grown_own (grown_own (grown_own (grown_own (HG9.out) (grown_set _ h 0 (.int .i64 k)) (fun g hg => by cases hg;exact HHW.out)) (grown_set _ h 1 (.int .i64 0)) (fun g hg => by cases hg;exact HHW.out)) (grown_set _ h 2 (.int .i64 0)) (fun g hg => by cases hg;exact HHW.out)) (grown_set _ h 3 (.int .i64 0)) (fun g hg => by cases hg;exact HHW.out)) (grown_set _ h 4 (.int .i64 0)) (fun g hg => by cases hg;exact HHW.out)) (grown_set _ h 5 (.int .i64 0)) (fun g hg => by cases hg;exact HHW.out)) (grown_set _ h 6 (.string ⟨#[]⟩)) (fun g hg => by cases hg;exact HHW.out)) (grown_set _ h 7 (.string ⟨#[]⟩)) (fun g hg => by cases hg;exact HHW.out)) (grown_set _ h 8 (.int .i64 0)) (fun g hg => by cases hg;exact HHW.out)) (grown_set _ h 9 (.string ⟨#[]⟩)) (fun g hg => by cases hg;exact HHW.out)⟩
 · skip
   have HNO:=qH (sN_no (u:=u) (q:=(a,false)) hc)
   refine (num_bad b u a _ HR0.out hu ha hc).mono ?_
   rintro e wz ⟨rfl,hb⟩
   have HGz:=qH (grown_trans HG0.out (fg_below hb))
   clear hb hc
   go_wp2_with fail
   exact ⟨rfl,Or.inr ⟨okDeed_bad (by simp [rdDeed,HNO.out,rcRest,rcNone]),rfl⟩,HGz.out⟩
theorem leaves_ret {P : Program} {fn : Func} {tmps : Array Value} {R : Ending -> World -> Prop} {w : World} {v : Value} (h : (results fn tmps).run P w = .ok v w) (hr : R (.returned v) w) : Leaves P fn tmps R [] .returning w:=⟨v,h,hr⟩
theorem openS_is {s : ByteArray} (h : (openS s).2.2 = 0) : openS s = ((openS s).1,0,0):=Prod.ext rfl (Prod.ext (openS_at s) h)
theorem openS_fits {s : ByteArray} (h : (openS s).2.2 = 0) : (openS s).1.size <= 8000:=by
 unfold openS at h ⊢
 split at h
 · exact absurd h (by decide)
 · rename_i h1
   split at h
   · exact absurd h (by decide)
   · rename_i h2
     rw [if_neg h1,if_neg h2]
     unfold unsS
     split
     · dsimp only
       unfold bodyS
       rw [ByteArray.size_extract]
       omega
     · exact Nat.zero_le _
end Go.Proofs.YthkbcjnbmciolaaGreatDoor
namespace Go.Proofs.YthkbcjnbmciolaaGreatDoor
open Go.RowKit Go.PlainAid G MGF IRow
set_option linter.unusedVariables false
abbrev DdR (w : World) (a : Option Addr) (n cap : Nat) (l : List Dd) : Prop:=SR ddE ddD w a n cap l
theorem DdR.at {w : World} {a : Option Addr} {n cap : Nat} {l : List Dd} (h : DdR w a n cap l) {i : Nat} (hi : i < n) : ∃ g o,a = some ⟨g,o,none⟩ /\ g < w.heap.size /\ w.cell? ⟨g,o + i * 10,none⟩ = some (.int .i64 (l.getD i ddD).kd) /\ w.cell? ⟨g,o + i * 10 + 1,none⟩ = some (.int .i64 (l.getD i ddD).gn) /\ w.cell? ⟨g,o + i * 10 + 2,none⟩ = some (.int .i64 (l.getD i ddD).nd) /\ w.cell? ⟨g,o + i * 10 + 3,none⟩ = some (.int .i64 (l.getD i ddD).mn) /\ w.cell? ⟨g,o + i * 10 + 4,none⟩ = some (.int .i64 (l.getD i ddD).ck) /\ w.cell? ⟨g,o + i * 10 + 5,none⟩ = some (.int .i64 (l.getD i ddD).no) /\ w.cell? ⟨g,o + i * 10 + 6,none⟩ = some (.string (l.getD i ddD).lk) /\ w.cell? ⟨g,o + i * 10 + 7,none⟩ = some (.string (l.getD i ddD).nm) /\ w.cell? ⟨g,o + i * 10 + 8,none⟩ = some (.int .i64 (l.getD i ddD).tm) /\ w.cell? ⟨g,o + i * 10 + 9,none⟩ = some (.string (l.getD i ddD).bd):=by
 obtain ⟨g,o,ha,hg,hc⟩:=h.cells (by omega)
 exact ⟨g,o,ha,hg,hc i hi 0 _ rfl,hc i hi 1 _ rfl,hc i hi 2 _ rfl,hc i hi 3 _ rfl,hc i hi 4 _ rfl,hc i hi 5 _ rfl,hc i hi 6 _ rfl,hc i hi 7 _ rfl,hc i hi 8 _ rfl,hc i hi 9 _ rfl⟩
theorem DdR.own {w : World} {base n cap : Nat} {a : Option Addr} {e : TypeId} {l : List Dd} (h : w.ownsRow base e ddE.k (.slice a n cap) n (ddE.flat l)) : DdR w a n cap l:=SR.own (by decide) h
theorem DdR.olen {w : World} {base n cap : Nat} {a : Option Addr} {e : TypeId} {l : List Dd} (h : w.ownsRow base e ddE.k (.slice a n cap) n (ddE.flat l)) : l.length = n:=by
 have:=h.1;rw [ddE.flat_length] at this;exact Nat.eq_of_mul_eq_mul_right (show 0 < ddE.k by decide) this
theorem infoDeed : (Tryz.prog.info? 145).map (fun i => (i.zero,i.size,i.bytes)) = some (some (.agg #[.int .i64 0,.int .i64 0,.int .i64 0,.int .i64 0,.int .i64 0,.int .i64 0,.string ByteArray.empty,.string ByteArray.empty,.int .i64 0,.string ByteArray.empty]),10,104):=by kernel_rfl
end Go.Proofs.YthkbcjnbmciolaaGreatDoor
