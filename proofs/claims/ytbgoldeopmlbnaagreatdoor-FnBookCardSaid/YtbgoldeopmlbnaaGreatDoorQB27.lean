/- Used by the law. -/
import Derived.Test.YtbgoldeopmlbnaaGreatDoorQB26
set_option maxRecDepth 100000
set_option maxHeartbeats 16000000
namespace Go.Proofs.YtbgoldeopmlbnaaGreatDoor
open Go.RowKit Go.PlainAid G MGet MGF IRow MNum MJoin
set_option linter.unusedVariables false
def ddV (d : Dd) : Value:=.agg #[.int .i64 d.kd,.int .i64 d.gn,.int .i64 d.nd,.int .i64 d.mn,.int .i64 d.ck,.int .i64 d.no,.string d.lk,.string d.nm,.int .i64 d.tm,.string d.bd]
def DeedOr (u : ByteArray) (a b : Nat) (w : World) (e : Ending) (w' : World) : Prop :=
 (okDeed u (a,false) = true /\ e = .returned (ddV (rdDeed u (a,false)).1) /\ RB w' b u ((rdDeed u (a,false)).2.1 : Int) ∨ okDeed u (a,false) = false /\ e = .panicked [{ v:=errV 3,recovered:=false }]) /\ w.grownBy w' (some b)
theorem BoxC.kept {w w' : World} {h b : Nat} {cs : List Value} (k : BoxC w h cs) (hg : w.grownBy w' (some b)) (hne : h ≠ b) : BoxC w' h cs:=k.grown hg (by intro e;injection e with e;exact hne e)
theorem RB.other {w : World} {b : Nat} {u : ByteArray} {p : Int} (k : RB w b u p) (h i : Nat) (v : Value) (hne : h ≠ b) : RB (w.setCell ⟨h,i,none⟩ v) b u p :=
 ⟨by simpa using k.lt,(World.cell?_setCell_other _ ⟨h,i,none⟩ ⟨b,0,none⟩ _ (by intro e;injection e with e;exact hne e)).trans k.c0,(World.cell?_setCell_other _ ⟨h,i,none⟩ ⟨b,1,none⟩ _ (by intro e;injection e with e;exact hne e)).trans k.c1,by simpa using k.free⟩
theorem okDeed_bad {u : ByteArray} {q : Plc} (h : (rdDeed u q).2.2 = true) : okDeed u q = false:=by unfold okDeed;rw [h];rfl
theorem sN_step {u : ByteArray} {p : Nat} (h : (rdS u p 10 0 0).2.2 = 0) : ∃ n p',sN u (p,false) = (n,(p',false)) /\ rdS u p 10 0 0 = (n,((p' : Nat) : Int),0) /\ p' <= u.size:=by
 obtain ⟨hy,hf,hp⟩:=sN_yes (u:=u) (q:=(p,false)) h
 exact ⟨_,_,Prod.ext rfl (Prod.ext rfl hf),hy,hp⟩
theorem sT_step {u : ByteArray} {p : Nat} (hu : u.size <= 8000) (h : (txtS u p).2.2 = 0) : ∃ t p',sT u (p,false) = (t,(p',false)) /\ txtS u p = (t,((p' : Nat) : Int),0) /\ p' <= u.size /\ t.size <= maxLen:=by
 obtain ⟨hy,hf,hp⟩:=sT_yes (u:=u) (q:=(p,false)) h
 refine ⟨_,_,Prod.ext rfl (Prod.ext rfl hf),hy,hp,?_⟩
 have h1:=txt_fits (u:=u) (a:=p) hu
 rw [hy] at h1
 unfold maxLen
 exact Nat.le_trans h1 (by omega)
theorem deedIn_any (b : Nat) (u : ByteArray) (a : Nat) (w : World) (hR : RB w b u (a : Int)) (hu : u.size <= 8000) (ha : a <= u.size) :
 Calls Tryz.prog 74 #[.pointer (some ⟨b,0,none⟩)] w (DeedOr u a b w):=by
 obtain ⟨W,hW⟩ : ∃ W,W = w.alloc (.cells #[.int .i64 0,.int .i64 0,.int .i64 0,.int .i64 0,.int .i64 0,.int .i64 0,.string ⟨#[]⟩,.string ⟨#[]⟩,.int .i64 0,.string ⟨#[]⟩] 34):=⟨_,rfl⟩
 obtain ⟨h,hh⟩ : ∃ h,h = w.heap.size:=⟨_,rfl⟩
 have HY0:=qH (show BoxC W h [.int .i64 0,.int .i64 0,.int .i64 0,.int .i64 0,.int .i64 0,.int .i64 0,.string ⟨#[]⟩,.string ⟨#[]⟩,.int .i64 0,.string ⟨#[]⟩] by rw [hW,hh];exact BoxC.made _ _ _)
 have hb0 : Below w.heap.size w W:=by rw [hW];exact (Below.refl _ _).alloc (Nat.le_refl _) _
 have HR0:=qH (hR.below hb0)
 have HG0:=qH (show w.grownBy W (some b) from fg_below hb0)
 have hbh : b < h:=by rw [hh];exact hR.lt
 have hne : h ≠ b:=by omega
 have HHW:=qH (show w.heap.size <= h by omega)
 clear hR hb0
 go_enter Tryz.func74,Tryz.ntmps74
 go_wp2_with fail
 rw [<- hW,<- hh]
 clear hW hh
 by_cases hc : (rdS u a 10 0 0).2.2 = 0
 · obtain ⟨k,p1,he,hy,hp1⟩:=sN_step hc
   have HE:=qH he
   have HY:=qH hy
   clear hc hy he
   refine (num_ok b u a p1 k _ HR0.out hu ha HY.out).mono ?_
   rintro e w1 ⟨rfl,hr,hg⟩
   obtain ⟨V,hV⟩ : ∃ V,V = w1.alloc (.cells #[.int .i64 k,.int .i64 0,.int .i64 0,.int .i64 0,.int .i64 0,.int .i64 0,.string ⟨#[]⟩,.string ⟨#[]⟩,.int .i64 0,.string ⟨#[]⟩] 34):=⟨_,rfl⟩
   obtain ⟨x,hx⟩ : ∃ x,x = w1.heap.size:=⟨_,rfl⟩
   have hb1 : Below w1.heap.size w1 V:=by rw [hV];exact (Below.refl _ _).alloc (Nat.le_refl _) _
   have HR1:=qH (hr.below hb1)
   have HY1:=qH ((HY0.out.kept hg hne).below hb1)
   have HG1:=qH (grown_trans HG0.out (grown_trans hg (fg_below hb1)))
   have HX1:=qH (show BoxC V x [.int .i64 k,.int .i64 0,.int .i64 0,.int .i64 0,.int .i64 0,.int .i64 0,.string ⟨#[]⟩,.string ⟨#[]⟩,.int .i64 0,.string ⟨#[]⟩] by rw [hV,hx];exact BoxC.made _ _ _)
   have hxh : h < x:=by rw [hx];exact (HY0.out.kept hg hne).lt
   have hxb : x ≠ b:=by omega
   clear hr hg HY hb1 HY0 HR0 HG0
   by_cases hk1 : k = 1
   · skip
     subst hk1
     have HRC : Hid (∀ q,rcRest u 1 q = rcConf u 1 q):=qH (fun q => by unfold rcRest;simp)
     go_wp2_with fail
     rw [<- hV,<- hx]
     clear hV hx
     by_cases hc : (rdS u p1 10 0 0).2.2 = 0
     · skip
       obtain ⟨n2,p2,he2,hy,hp2⟩:=sN_step hc
       have HE2:=qH he2
       have HY:=qH hy
       clear hc hy he2
       refine (num_ok b u p1 p2 n2 _ HR1.out hu hp1 HY.out).mono ?_
       rintro e w2 ⟨rfl,hr,hg⟩
       have HR2:=qH hr
       have HY2:=qH (HY1.out.kept hg hne)
       have HX2:=qH (HX1.out.kept hg hxb)
       have HG2:=qH (grown_trans HG1.out hg)
       clear hr hg HY HY1 HX1
       go_wp2_with fail
       by_cases hc : (rdS u p2 10 0 0).2.2 = 0
       · skip
         obtain ⟨n3,p3,he3,hy,hp3⟩:=sN_step hc
         have HE3:=qH he3
         have HY:=qH hy
         clear hc hy he3
         refine (num_ok b u p2 p3 n3 _ HR2.out hu hp2 HY.out).mono ?_
         rintro e w3 ⟨rfl,hr,hg⟩
         have HR3:=qH hr
         have HY3:=qH (HY2.out.kept hg hne)
         have HX3:=qH (HX2.out.kept hg hxb)
         have HG3:=qH (grown_trans HG2.out hg)
         clear hr hg HY HY2 HX2
         go_wp2_with fail
         by_cases hc : (rdS u p3 10 0 0).2.2 = 0
         · skip
           obtain ⟨n4,p4,he4,hy,hp4⟩:=sN_step hc
           have HE4:=qH he4
           have HY:=qH hy
           clear hc hy he4
           refine (num_ok b u p3 p4 n4 _ HR3.out hu hp3 HY.out).mono ?_
           rintro e w4 ⟨rfl,hr,hg⟩
           have HR4:=qH hr
           have HY4:=qH (HY3.out.kept hg hne)
           have HX4:=qH (HX3.out.kept hg hxb)
           have HG4:=qH (grown_trans HG3.out hg)
           clear hr hg HY HY3 HX3
           go_wp2_with fail
           by_cases hc : (rdS u p4 10 0 0).2.2 = 0
           · skip
             obtain ⟨n5,p5,he5,hy,hp5⟩:=sN_step hc
             have HE5:=qH he5
             have HY:=qH hy
             clear hc hy he5
             refine (num_ok b u p4 p5 n5 _ HR4.out hu hp4 HY.out).mono ?_
             rintro e w5 ⟨rfl,hr,hg⟩
             have HR5:=qH hr
             have HY5:=qH (HY4.out.kept hg hne)
             have HX5:=qH (HX4.out.kept hg hxb)
             have HG5:=qH (grown_trans HG4.out hg)
             clear hr hg HY HY4 HX4
             have x0:=HX5.out.cell 0 _ rfl
             have fx0:=HX5.out.free 0
             have x1:=HX5.out.cell 1 _ rfl
             have fx1:=HX5.out.free 1
             have x2:=HX5.out.cell 2 _ rfl
             have fx2:=HX5.out.free 2
             have x3:=HX5.out.cell 3 _ rfl
             have fx3:=HX5.out.free 3
             have x4:=HX5.out.cell 4 _ rfl
             have fx4:=HX5.out.free 4
             have x5:=HX5.out.cell 5 _ rfl
             have fx5:=HX5.out.free 5
             have x6:=HX5.out.cell 6 _ rfl
             have fx6:=HX5.out.free 6
             have x7:=HX5.out.cell 7 _ rfl
             have fx7:=HX5.out.free 7
             have x8:=HX5.out.cell 8 _ rfl
             have fx8:=HX5.out.free 8
             have x9:=HX5.out.cell 9 _ rfl
             have fx9:=HX5.out.free 9
             obtain ⟨X,hX⟩ : ∃ X,X = (((w5.setCell ⟨x,1,none⟩ (.int .i64 n2)).setCell ⟨x,2,none⟩ (.int .i64 n3)).setCell ⟨x,3,none⟩ (.int .i64 n4)).setCell ⟨x,4,none⟩ (.int .i64 n5):=⟨_,rfl⟩
             have HXX:=qH (show BoxC X x [.int .i64 1,.int .i64 n2,.int .i64 n3,.int .i64 n4,.int .i64 n5,.int .i64 0,.string ⟨#[]⟩,.string ⟨#[]⟩,.int .i64 0,.string ⟨#[]⟩] by rw [hX];exact ((((HX5.out.set (j:=1) (by simp) (.int .i64 n2)).set (j:=2) (by simp) (.int .i64 n3)).set (j:=3) (by simp) (.int .i64 n4)).set (j:=4) (by simp) (.int .i64 n5)))
             have HRX:=qH (show RB X b u (p5 : Int) by rw [hX];exact ((((HR5.out.other x 1 (.int .i64 n2) hxb).other x 2 (.int .i64 n3) hxb).other x 3 (.int .i64 n4) hxb).other x 4 (.int .i64 n5) hxb))
             have HYX:=qH (show BoxC X h [.int .i64 0,.int .i64 0,.int .i64 0,.int .i64 0,.int .i64 0,.int .i64 0,.string ⟨#[]⟩,.string ⟨#[]⟩,.int .i64 0,.string ⟨#[]⟩] by rw [hX];exact ((((HY5.out.other ⟨x,1,none⟩ (.int .i64 n2) (by show x ≠ h;omega)).other ⟨x,2,none⟩ (.int .i64 n3) (by show x ≠ h;omega)).other ⟨x,3,none⟩ (.int .i64 n4) (by show x ≠ h;omega)).other ⟨x,4,none⟩ (.int .i64 n5) (by show x ≠ h;omega)))
             have HGX:=qH (show w.grownBy X (some b) by rw [hX];exact grown_own (grown_own (grown_own (grown_own (HG5.out) (grown_set _ x 1 _) (fun g hg => by cases hg;have:=HHW.out;omega)) (grown_set _ x 2 _) (fun g hg => by cases hg;have:=HHW.out;omega)) (grown_set _ x 3 _) (fun g hg => by cases hg;have:=HHW.out;omega)) (grown_set _ x 4 _) (fun g hg => by cases hg;have:=HHW.out;omega))
             have hlx:=HX5.out.lt
             clear HR5 HX5 HY5
             go_wp2_with fail
             rw [<- hX]
             clear hX x0 fx0 x1 fx1 x2 fx2 x3 fx3 x4 fx4 x5 fx5 x6 fx6 x7 fx7 x8 fx8 x9 fx9 hlx
             refine (implDeedRight_any 1 n2 n3 n4 n5 0 (⟨#[]⟩) (⟨#[]⟩) 0 (⟨#[]⟩) _ (Nat.zero_le _) (Nat.zero_le _) (Nat.zero_le _)).mono ?_
             rintro e w9 ⟨rfl,hb⟩
             have HX9:=qH (HXX.out.below hb)
             have HR9:=qH (HRX.out.below hb)
             have HY9:=qH (HYX.out.below hb)
             have HG9:=qH (grown_trans HGX.out (fg_below hb))
             clear hb HXX HRX HYX HGX
             have HEQ : Hid (rdDeed u (a,false) = (⟨1,n2,n3,n4,n5,0,⟨#[]⟩,⟨#[]⟩,0,⟨#[]⟩⟩,(p5,false))):=qH (by simp only [rdDeed,HRC.out,rcConf,HE.out,HE2.out,HE3.out,HE4.out,HE5.out])
             obtain ⟨ob,hob⟩ : ∃ ob,deedB 1 n2 n3 n4 n5 0 (⟨#[]⟩) (⟨#[]⟩) 0 (⟨#[]⟩) = ob:=⟨_,rfl⟩
             rw [hob]
             have HOB:=qH hob
             clear hob
             cases ob
             · go_wp2_with fail
               refine (must_no _).mono ?_
               rintro e w10 ⟨rfl,rfl⟩
               go_wp2_with fail
               exact ⟨rfl,Or.inr ⟨by unfold okDeed;rw [HEQ.out];exact HOB.out,rfl⟩,HG9.out⟩
             · go_wp2_with fail
               refine (must_yes _).mono ?_
               rintro e w10 ⟨rfl,rfl⟩
               have x0:=HX9.out.cell 0 _ rfl
               have x1:=HX9.out.cell 1 _ rfl
               have x2:=HX9.out.cell 2 _ rfl
               have x3:=HX9.out.cell 3 _ rfl
               have x4:=HX9.out.cell 4 _ rfl
               have x5:=HX9.out.cell 5 _ rfl
               have x6:=HX9.out.cell 6 _ rfl
               have x7:=HX9.out.cell 7 _ rfl
               have x8:=HX9.out.cell 8 _ rfl
               have x9:=HX9.out.cell 9 _ rfl
               have y0:=HY9.out.cell 0 _ rfl
               have fy0:=HY9.out.free 0
               have y1:=HY9.out.cell 1 _ rfl
               have fy1:=HY9.out.free 1
               have y2:=HY9.out.cell 2 _ rfl
               have fy2:=HY9.out.free 2
               have y3:=HY9.out.cell 3 _ rfl
               have fy3:=HY9.out.free 3
               have y4:=HY9.out.cell 4 _ rfl
               have fy4:=HY9.out.free 4
               have y5:=HY9.out.cell 5 _ rfl
               have fy5:=HY9.out.free 5
               have y6:=HY9.out.cell 6 _ rfl
               have fy6:=HY9.out.free 6
               have y7:=HY9.out.cell 7 _ rfl
               have fy7:=HY9.out.free 7
               have y8:=HY9.out.cell 8 _ rfl
               have fy8:=HY9.out.free 8
               have y9:=HY9.out.cell 9 _ rfl
               have fy9:=HY9.out.free 9
               have hly:=HY9.out.lt
               go_wp2_with fail
               exact bodyPost_ret (v:=.agg #[.int .i64 1,.int .i64 n2,.int .i64 n3,.int .i64 n4,.int .i64 n5,.int .i64 0,.string ⟨#[]⟩,.string ⟨#[]⟩,.int .i64 0,.string ⟨#[]⟩]) (by simp [results,Tryz.results74,go_sem,y0,y1,y2,y3,y4,y5,y6,y7,y8,y9]) rfl ⟨Or.inl ⟨by rw [okDeed_iff,HEQ.out];exact ⟨rfl,HOB.out⟩,by rw [HEQ.out];rfl,by rw [HEQ.out];exact ((((((((((HR9.out.other h 0 (.int .i64 1) hne).other h 1 (.int .i64 n2) hne).other h 2 (.int .i64 n3) hne).other h 3 (.int .i64 n4) hne).other h 4 (.int .i64 n5) hne).other h 5 (.int .i64 0) hne).other h 6 (.string ⟨#[]⟩) hne).other h 7 (.string ⟨#[]⟩) hne).other h 8 (.int .i64 0) hne).other h 9 (.string ⟨#[]⟩) hne)⟩,grown_own (grown_own (grown_own (grown_own (grown_own (grown_own (grown_own (grown_own (grown_own (grown_own (HG9.out) (grown_set _ h 0 (.int .i64 1)) (fun g hg => by cases hg;exact HHW.out)) (grown_set _ h 1 (.int .i64 n2)) (fun g hg => by cases hg;exact HHW.out)) (grown_set _ h 2 (.int .i64 n3)) (fun g hg => by cases hg;exact HHW.out)) (grown_set _ h 3 (.int .i64 n4)) (fun g hg => by cases hg;exact HHW.out)) (grown_set _ h 4 (.int .i64 n5)) (fun g hg => by cases hg;exact HHW.out)) (grown_set _ h 5 (.int .i64 0)) (fun g hg => by cases hg;exact HHW.out)) (grown_set _ h 6 (.string ⟨#[]⟩)) (fun g hg => by cases hg;exact HHW.out)) (grown_set _ h 7 (.string ⟨#[]⟩)) (fun g hg => by cases hg;exact HHW.out)) (grown_set _ h 8 (.int .i64 0)) (fun g hg => by cases hg;exact HHW.out)) (grown_set _ h 9 (.string ⟨#[]⟩)) (fun g hg => by cases hg;exact HHW.out)⟩
           · skip
             have HNO:=qH (sN_no (u:=u) (q:=(p4,false)) hc)
             refine (num_bad b u p4 _ HR4.out hu hp4 hc).mono ?_
             rintro e wz ⟨rfl,hb⟩
             have HGz:=qH (grown_trans HG4.out (fg_below hb))
             clear hb hc
             go_wp2_with fail
             exact ⟨rfl,Or.inr ⟨okDeed_bad (by simp only [rdDeed,HRC.out,rcConf,HE.out,HE2.out,HE3.out,HE4.out,HNO.out];try (repeat (first | rfl | refine sN_bad ?_ | refine sT_bad ?_))),rfl⟩,HGz.out⟩
         · skip
           have HNO:=qH (sN_no (u:=u) (q:=(p3,false)) hc)
           refine (num_bad b u p3 _ HR3.out hu hp3 hc).mono ?_
           rintro e wz ⟨rfl,hb⟩
           have HGz:=qH (grown_trans HG3.out (fg_below hb))
           clear hb hc
           go_wp2_with fail
           exact ⟨rfl,Or.inr ⟨okDeed_bad (by simp only [rdDeed,HRC.out,rcConf,HE.out,HE2.out,HE3.out,HNO.out];try (repeat (first | rfl | refine sN_bad ?_ | refine sT_bad ?_))),rfl⟩,HGz.out⟩
       · skip
         have HNO:=qH (sN_no (u:=u) (q:=(p2,false)) hc)
         refine (num_bad b u p2 _ HR2.out hu hp2 hc).mono ?_
         rintro e wz ⟨rfl,hb⟩
         have HGz:=qH (grown_trans HG2.out (fg_below hb))
         clear hb hc
         go_wp2_with fail
         exact ⟨rfl,Or.inr ⟨okDeed_bad (by simp only [rdDeed,HRC.out,rcConf,HE.out,HE2.out,HNO.out];try (repeat (first | rfl | refine sN_bad ?_ | refine sT_bad ?_))),rfl⟩,HGz.out⟩
     · skip
       have HNO:=qH (sN_no (u:=u) (q:=(p1,false)) hc)
       refine (num_bad b u p1 _ HR1.out hu hp1 hc).mono ?_
       rintro e wz ⟨rfl,hb⟩
       have HGz:=qH (grown_trans HG1.out (fg_below hb))
       clear hb hc
       go_wp2_with fail
       exact ⟨rfl,Or.inr ⟨okDeed_bad (by simp only [rdDeed,HRC.out,rcConf,HE.out,HNO.out];try (repeat (first | rfl | refine sN_bad ?_ | refine sT_bad ?_))),rfl⟩,HGz.out⟩
   · skip
     by_cases hk2 : k = 2
     · skip
       subst hk2
       have HRC : Hid (∀ q,rcRest u 2 q = rcTerm u 2 q):=qH (fun q => by unfold rcRest;simp)
       go_wp2_with fail
       rw [<- hV,<- hx]
       clear hV hx
       by_cases hc : (rdS u p1 10 0 0).2.2 = 0
       · skip
         obtain ⟨n2,p2,he2,hy,hp2⟩:=sN_step hc
         have HE2:=qH he2
         have HY:=qH hy
         clear hc hy he2
         refine (num_ok b u p1 p2 n2 _ HR1.out hu hp1 HY.out).mono ?_
         rintro e w2 ⟨rfl,hr,hg⟩
         have HR2:=qH hr
         have HY2:=qH (HY1.out.kept hg hne)
         have HX2:=qH (HX1.out.kept hg hxb)
         have HG2:=qH (grown_trans HG1.out hg)
         clear hr hg HY HY1 HX1
         go_wp2_with fail
         by_cases hc : (txtS u p2).2.2 = 0
         · skip
           obtain ⟨t3,p3,he3,hy,hp3,hz3⟩:=sT_step hu hc
           have HZ3:=qH hz3
           have HE3:=qH he3
           have HY:=qH hy
           clear hc hy he3 hz3
           refine (text_ok b u p2 p3 t3 _ HR2.out hu hp2 HY.out).mono ?_
           rintro e w3 ⟨rfl,hr,hg⟩
           have HR3:=qH hr
           have HY3:=qH (HY2.out.kept hg hne)
           have HX3:=qH (HX2.out.kept hg hxb)
           have HG3:=qH (grown_trans HG2.out hg)
           clear hr hg HY HY2 HX2
           have x0:=HX3.out.cell 0 _ rfl
           have fx0:=HX3.out.free 0
           have x1:=HX3.out.cell 1 _ rfl
           have fx1:=HX3.out.free 1
           have x2:=HX3.out.cell 2 _ rfl
           have fx2:=HX3.out.free 2
           have x3:=HX3.out.cell 3 _ rfl
           have fx3:=HX3.out.free 3
           have x4:=HX3.out.cell 4 _ rfl
           have fx4:=HX3.out.free 4
           have x5:=HX3.out.cell 5 _ rfl
           have fx5:=HX3.out.free 5
           have x6:=HX3.out.cell 6 _ rfl
           have fx6:=HX3.out.free 6
           have x7:=HX3.out.cell 7 _ rfl
           have fx7:=HX3.out.free 7
           have x8:=HX3.out.cell 8 _ rfl
           have fx8:=HX3.out.free 8
           have x9:=HX3.out.cell 9 _ rfl
           have fx9:=HX3.out.free 9
           obtain ⟨X,hX⟩ : ∃ X,X = (w3.setCell ⟨x,5,none⟩ (.int .i64 n2)).setCell ⟨x,6,none⟩ (.string t3):=⟨_,rfl⟩
           have HXX:=qH (show BoxC X x [.int .i64 2,.int .i64 0,.int .i64 0,.int .i64 0,.int .i64 0,.int .i64 n2,.string t3,.string ⟨#[]⟩,.int .i64 0,.string ⟨#[]⟩] by rw [hX];exact ((HX3.out.set (j:=5) (by simp) (.int .i64 n2)).set (j:=6) (by simp) (.string t3)))
           have HRX:=qH (show RB X b u (p3 : Int) by rw [hX];exact ((HR3.out.other x 5 (.int .i64 n2) hxb).other x 6 (.string t3) hxb))
           have HYX:=qH (show BoxC X h [.int .i64 0,.int .i64 0,.int .i64 0,.int .i64 0,.int .i64 0,.int .i64 0,.string ⟨#[]⟩,.string ⟨#[]⟩,.int .i64 0,.string ⟨#[]⟩] by rw [hX];exact ((HY3.out.other ⟨x,5,none⟩ (.int .i64 n2) (by show x ≠ h;omega)).other ⟨x,6,none⟩ (.string t3) (by show x ≠ h;omega)))
           have HGX:=qH (show w.grownBy X (some b) by rw [hX];exact grown_own (grown_own (HG3.out) (grown_set _ x 5 _) (fun g hg => by cases hg;have:=HHW.out;omega)) (grown_set _ x 6 _) (fun g hg => by cases hg;have:=HHW.out;omega))
           have hlx:=HX3.out.lt
           clear HR3 HX3 HY3
           go_wp2_with fail
           rw [<- hX]
           clear hX x0 fx0 x1 fx1 x2 fx2 x3 fx3 x4 fx4 x5 fx5 x6 fx6 x7 fx7 x8 fx8 x9 fx9 hlx
           refine (implDeedRight_any 2 0 0 0 0 n2 t3 (⟨#[]⟩) 0 (⟨#[]⟩) _ HZ3.out (Nat.zero_le _) (Nat.zero_le _)).mono ?_
           rintro e w9 ⟨rfl,hb⟩
           have HX9:=qH (HXX.out.below hb)
           have HR9:=qH (HRX.out.below hb)
           have HY9:=qH (HYX.out.below hb)
           have HG9:=qH (grown_trans HGX.out (fg_below hb))
           clear hb HXX HRX HYX HGX
           have HEQ : Hid (rdDeed u (a,false) = (⟨2,0,0,0,0,n2,t3,⟨#[]⟩,0,⟨#[]⟩⟩,(p3,false))):=qH (by simp only [rdDeed,HRC.out,rcTerm,HE.out,HE2.out,HE3.out])
           obtain ⟨ob,hob⟩ : ∃ ob,deedB 2 0 0 0 0 n2 t3 (⟨#[]⟩) 0 (⟨#[]⟩) = ob:=⟨_,rfl⟩
           rw [hob]
           have HOB:=qH hob
           clear hob
           cases ob
           · go_wp2_with fail
             refine (must_no _).mono ?_
             rintro e w10 ⟨rfl,rfl⟩
             go_wp2_with fail
             exact ⟨rfl,Or.inr ⟨by unfold okDeed;rw [HEQ.out];exact HOB.out,rfl⟩,HG9.out⟩
           · go_wp2_with fail
             refine (must_yes _).mono ?_
             rintro e w10 ⟨rfl,rfl⟩
             have x0:=HX9.out.cell 0 _ rfl
             have x1:=HX9.out.cell 1 _ rfl
             have x2:=HX9.out.cell 2 _ rfl
             have x3:=HX9.out.cell 3 _ rfl
             have x4:=HX9.out.cell 4 _ rfl
             have x5:=HX9.out.cell 5 _ rfl
             have x6:=HX9.out.cell 6 _ rfl
             have x7:=HX9.out.cell 7 _ rfl
             have x8:=HX9.out.cell 8 _ rfl
             have x9:=HX9.out.cell 9 _ rfl
             have y0:=HY9.out.cell 0 _ rfl
             have fy0:=HY9.out.free 0
             have y1:=HY9.out.cell 1 _ rfl
             have fy1:=HY9.out.free 1
             have y2:=HY9.out.cell 2 _ rfl
             have fy2:=HY9.out.free 2
             have y3:=HY9.out.cell 3 _ rfl
             have fy3:=HY9.out.free 3
             have y4:=HY9.out.cell 4 _ rfl
             have fy4:=HY9.out.free 4
             have y5:=HY9.out.cell 5 _ rfl
             have fy5:=HY9.out.free 5
             have y6:=HY9.out.cell 6 _ rfl
             have fy6:=HY9.out.free 6
             have y7:=HY9.out.cell 7 _ rfl
             have fy7:=HY9.out.free 7
             have y8:=HY9.out.cell 8 _ rfl
             have fy8:=HY9.out.free 8
             have y9:=HY9.out.cell 9 _ rfl
             have fy9:=HY9.out.free 9
             have hly:=HY9.out.lt
             go_wp2_with fail
             exact bodyPost_ret (v:=.agg #[.int .i64 2,.int .i64 0,.int .i64 0,.int .i64 0,.int .i64 0,.int .i64 n2,.string t3,.string ⟨#[]⟩,.int .i64 0,.string ⟨#[]⟩]) (by simp [results,Tryz.results74,go_sem,y0,y1,y2,y3,y4,y5,y6,y7,y8,y9]) rfl ⟨Or.inl ⟨by rw [okDeed_iff,HEQ.out];exact ⟨rfl,HOB.out⟩,by rw [HEQ.out];rfl,by rw [HEQ.out];exact ((((((((((HR9.out.other h 0 (.int .i64 2) hne).other h 1 (.int .i64 0) hne).other h 2 (.int .i64 0) hne).other h 3 (.int .i64 0) hne).other h 4 (.int .i64 0) hne).other h 5 (.int .i64 n2) hne).other h 6 (.string t3) hne).other h 7 (.string ⟨#[]⟩) hne).other h 8 (.int .i64 0) hne).other h 9 (.string ⟨#[]⟩) hne)⟩,grown_own (grown_own (grown_own (grown_own (grown_own (grown_own (grown_own (grown_own (grown_own (grown_own (HG9.out) (grown_set _ h 0 (.int .i64 2)) (fun g hg => by cases hg;exact HHW.out)) (grown_set _ h 1 (.int .i64 0)) (fun g hg => by cases hg;exact HHW.out)) (grown_set _ h 2 (.int .i64 0)) (fun g hg => by cases hg;exact HHW.out)) (grown_set _ h 3 (.int .i64 0)) (fun g hg => by cases hg;exact HHW.out)) (grown_set _ h 4 (.int .i64 0)) (fun g hg => by cases hg;exact HHW.out)) (grown_set _ h 5 (.int .i64 n2)) (fun g hg => by cases hg;exact HHW.out)) (grown_set _ h 6 (.string t3)) (fun g hg => by cases hg;exact HHW.out)) (grown_set _ h 7 (.string ⟨#[]⟩)) (fun g hg => by cases hg;exact HHW.out)) (grown_set _ h 8 (.int .i64 0)) (fun g hg => by cases hg;exact HHW.out)) (grown_set _ h 9 (.string ⟨#[]⟩)) (fun g hg => by cases hg;exact HHW.out)⟩
         · skip
           have HNO:=qH (sT_no (u:=u) (q:=(p2,false)) hc)
           refine (text_bad b u p2 _ HR2.out hu hp2 hc).mono ?_
           rintro e wz ⟨rfl,hb⟩
           have HGz:=qH (grown_trans HG2.out (fg_below hb))
           clear hb hc
           go_wp2_with fail
           exact ⟨rfl,Or.inr ⟨okDeed_bad (by simp only [rdDeed,HRC.out,rcTerm,HE.out,HE2.out,HNO.out];try (repeat (first | rfl | refine sN_bad ?_ | refine sT_bad ?_))),rfl⟩,HGz.out⟩
       · skip
         have HNO:=qH (sN_no (u:=u) (q:=(p1,false)) hc)
         refine (num_bad b u p1 _ HR1.out hu hp1 hc).mono ?_
         rintro e wz ⟨rfl,hb⟩
         have HGz:=qH (grown_trans HG1.out (fg_below hb))
         clear hb hc
         go_wp2_with fail
         exact ⟨rfl,Or.inr ⟨okDeed_bad (by simp only [rdDeed,HRC.out,rcTerm,HE.out,HNO.out];try (repeat (first | rfl | refine sN_bad ?_ | refine sT_bad ?_))),rfl⟩,HGz.out⟩
     · skip
       by_cases hk3 : k = 3
       · skip
         subst hk3
         have HRC : Hid (∀ q,rcRest u 3 q = rcPut u 3 q):=qH (fun q => by unfold rcRest;simp)
         go_wp2_with fail
         rw [<- hV,<- hx]
         clear hV hx
         by_cases hc : (txtS u p1).2.2 = 0
         · skip
           obtain ⟨t2,p2,he2,hy,hp2,hz2⟩:=sT_step hu hc
           have HZ2:=qH hz2
           have HE2:=qH he2
           have HY:=qH hy
           clear hc hy he2 hz2
           refine (text_ok b u p1 p2 t2 _ HR1.out hu hp1 HY.out).mono ?_
           rintro e w2 ⟨rfl,hr,hg⟩
           have HR2:=qH hr
           have HY2:=qH (HY1.out.kept hg hne)
           have HX2:=qH (HX1.out.kept hg hxb)
           have HG2:=qH (grown_trans HG1.out hg)
           clear hr hg HY HY1 HX1
           go_wp2_with fail
           by_cases hc : (rdS u p2 10 0 0).2.2 = 0
           · skip
             obtain ⟨n3,p3,he3,hy,hp3⟩:=sN_step hc
             have HE3:=qH he3
             have HY:=qH hy
             clear hc hy he3
             refine (num_ok b u p2 p3 n3 _ HR2.out hu hp2 HY.out).mono ?_
             rintro e w3 ⟨rfl,hr,hg⟩
             have HR3:=qH hr
             have HY3:=qH (HY2.out.kept hg hne)
             have HX3:=qH (HX2.out.kept hg hxb)
             have HG3:=qH (grown_trans HG2.out hg)
             clear hr hg HY HY2 HX2
             go_wp2_with fail
             by_cases hc : (txtS u p3).2.2 = 0
             · skip
               obtain ⟨t4,p4,he4,hy,hp4,hz4⟩:=sT_step hu hc
               have HZ4:=qH hz4
               have HE4:=qH he4
               have HY:=qH hy
               clear hc hy he4 hz4
               refine (text_ok b u p3 p4 t4 _ HR3.out hu hp3 HY.out).mono ?_
               rintro e w4 ⟨rfl,hr,hg⟩
               have HR4:=qH hr
               have HY4:=qH (HY3.out.kept hg hne)
               have HX4:=qH (HX3.out.kept hg hxb)
               have HG4:=qH (grown_trans HG3.out hg)
               clear hr hg HY HY3 HX3
               have x0:=HX4.out.cell 0 _ rfl
               have fx0:=HX4.out.free 0
               have x1:=HX4.out.cell 1 _ rfl
               have fx1:=HX4.out.free 1
               have x2:=HX4.out.cell 2 _ rfl
               have fx2:=HX4.out.free 2
               have x3:=HX4.out.cell 3 _ rfl
               have fx3:=HX4.out.free 3
               have x4:=HX4.out.cell 4 _ rfl
               have fx4:=HX4.out.free 4
               have x5:=HX4.out.cell 5 _ rfl
               have fx5:=HX4.out.free 5
               have x6:=HX4.out.cell 6 _ rfl
               have fx6:=HX4.out.free 6
               have x7:=HX4.out.cell 7 _ rfl
               have fx7:=HX4.out.free 7
               have x8:=HX4.out.cell 8 _ rfl
               have fx8:=HX4.out.free 8
               have x9:=HX4.out.cell 9 _ rfl
               have fx9:=HX4.out.free 9
               obtain ⟨X,hX⟩ : ∃ X,X = ((w4.setCell ⟨x,7,none⟩ (.string t2)).setCell ⟨x,8,none⟩ (.int .i64 n3)).setCell ⟨x,9,none⟩ (.string t4):=⟨_,rfl⟩
               have HXX:=qH (show BoxC X x [.int .i64 3,.int .i64 0,.int .i64 0,.int .i64 0,.int .i64 0,.int .i64 0,.string ⟨#[]⟩,.string t2,.int .i64 n3,.string t4] by rw [hX];exact (((HX4.out.set (j:=7) (by simp) (.string t2)).set (j:=8) (by simp) (.int .i64 n3)).set (j:=9) (by simp) (.string t4)))
               have HRX:=qH (show RB X b u (p4 : Int) by rw [hX];exact (((HR4.out.other x 7 (.string t2) hxb).other x 8 (.int .i64 n3) hxb).other x 9 (.string t4) hxb))
               have HYX:=qH (show BoxC X h [.int .i64 0,.int .i64 0,.int .i64 0,.int .i64 0,.int .i64 0,.int .i64 0,.string ⟨#[]⟩,.string ⟨#[]⟩,.int .i64 0,.string ⟨#[]⟩] by rw [hX];exact (((HY4.out.other ⟨x,7,none⟩ (.string t2) (by show x ≠ h;omega)).other ⟨x,8,none⟩ (.int .i64 n3) (by show x ≠ h;omega)).other ⟨x,9,none⟩ (.string t4) (by show x ≠ h;omega)))
               have HGX:=qH (show w.grownBy X (some b) by rw [hX];exact grown_own (grown_own (grown_own (HG4.out) (grown_set _ x 7 _) (fun g hg => by cases hg;have:=HHW.out;omega)) (grown_set _ x 8 _) (fun g hg => by cases hg;have:=HHW.out;omega)) (grown_set _ x 9 _) (fun g hg => by cases hg;have:=HHW.out;omega))
               have hlx:=HX4.out.lt
               clear HR4 HX4 HY4
               go_wp2_with fail
               rw [<- hX]
               clear hX x0 fx0 x1 fx1 x2 fx2 x3 fx3 x4 fx4 x5 fx5 x6 fx6 x7 fx7 x8 fx8 x9 fx9 hlx
               refine (implDeedRight_any 3 0 0 0 0 0 (⟨#[]⟩) t2 n3 t4 _ (Nat.zero_le _) HZ2.out HZ4.out).mono ?_
               rintro e w9 ⟨rfl,hb⟩
               have HX9:=qH (HXX.out.below hb)
               have HR9:=qH (HRX.out.below hb)
               have HY9:=qH (HYX.out.below hb)
               have HG9:=qH (grown_trans HGX.out (fg_below hb))
               clear hb HXX HRX HYX HGX
               have HEQ : Hid (rdDeed u (a,false) = (⟨3,0,0,0,0,0,⟨#[]⟩,t2,n3,t4⟩,(p4,false))):=qH (by simp only [rdDeed,HRC.out,rcPut,HE.out,HE2.out,HE3.out,HE4.out])
               obtain ⟨ob,hob⟩ : ∃ ob,deedB 3 0 0 0 0 0 (⟨#[]⟩) t2 n3 t4 = ob:=⟨_,rfl⟩
               rw [hob]
               have HOB:=qH hob
               clear hob
               cases ob
               · go_wp2_with fail
                 refine (must_no _).mono ?_
                 rintro e w10 ⟨rfl,rfl⟩
                 go_wp2_with fail
                 exact ⟨rfl,Or.inr ⟨by unfold okDeed;rw [HEQ.out];exact HOB.out,rfl⟩,HG9.out⟩
               · go_wp2_with fail
                 refine (must_yes _).mono ?_
                 rintro e w10 ⟨rfl,rfl⟩
                 have x0:=HX9.out.cell 0 _ rfl
                 have x1:=HX9.out.cell 1 _ rfl
                 have x2:=HX9.out.cell 2 _ rfl
                 have x3:=HX9.out.cell 3 _ rfl
                 have x4:=HX9.out.cell 4 _ rfl
                 have x5:=HX9.out.cell 5 _ rfl
                 have x6:=HX9.out.cell 6 _ rfl
                 have x7:=HX9.out.cell 7 _ rfl
                 have x8:=HX9.out.cell 8 _ rfl
                 have x9:=HX9.out.cell 9 _ rfl
                 have y0:=HY9.out.cell 0 _ rfl
                 have fy0:=HY9.out.free 0
                 have y1:=HY9.out.cell 1 _ rfl
                 have fy1:=HY9.out.free 1
                 have y2:=HY9.out.cell 2 _ rfl
                 have fy2:=HY9.out.free 2
                 have y3:=HY9.out.cell 3 _ rfl
                 have fy3:=HY9.out.free 3
                 have y4:=HY9.out.cell 4 _ rfl
                 have fy4:=HY9.out.free 4
                 have y5:=HY9.out.cell 5 _ rfl
                 have fy5:=HY9.out.free 5
                 have y6:=HY9.out.cell 6 _ rfl
                 have fy6:=HY9.out.free 6
                 have y7:=HY9.out.cell 7 _ rfl
                 have fy7:=HY9.out.free 7
                 have y8:=HY9.out.cell 8 _ rfl
                 have fy8:=HY9.out.free 8
                 have y9:=HY9.out.cell 9 _ rfl
                 have fy9:=HY9.out.free 9
                 have hly:=HY9.out.lt
                 go_wp2_with fail
                 exact bodyPost_ret (v:=.agg #[.int .i64 3,.int .i64 0,.int .i64 0,.int .i64 0,.int .i64 0,.int .i64 0,.string ⟨#[]⟩,.string t2,.int .i64 n3,.string t4]) (by simp [results,Tryz.results74,go_sem,y0,y1,y2,y3,y4,y5,y6,y7,y8,y9]) rfl ⟨Or.inl ⟨by rw [okDeed_iff,HEQ.out];exact ⟨rfl,HOB.out⟩,by rw [HEQ.out];rfl,by rw [HEQ.out];exact ((((((((((HR9.out.other h 0 (.int .i64 3) hne).other h 1 (.int .i64 0) hne).other h 2 (.int .i64 0) hne).other h 3 (.int .i64 0) hne).other h 4 (.int .i64 0) hne).other h 5 (.int .i64 0) hne).other h 6 (.string ⟨#[]⟩) hne).other h 7 (.string t2) hne).other h 8 (.int .i64 n3) hne).other h 9 (.string t4) hne)⟩,grown_own (grown_own (grown_own (grown_own (grown_own (grown_own (grown_own (grown_own (grown_own (grown_own (HG9.out) (grown_set _ h 0 (.int .i64 3)) (fun g hg => by cases hg;exact HHW.out)) (grown_set _ h 1 (.int .i64 0)) (fun g hg => by cases hg;exact HHW.out)) (grown_set _ h 2 (.int .i64 0)) (fun g hg => by cases hg;exact HHW.out)) (grown_set _ h 3 (.int .i64 0)) (fun g hg => by cases hg;exact HHW.out)) (grown_set _ h 4 (.int .i64 0)) (fun g hg => by cases hg;exact HHW.out)) (grown_set _ h 5 (.int .i64 0)) (fun g hg => by cases hg;exact HHW.out)) (grown_set _ h 6 (.string ⟨#[]⟩)) (fun g hg => by cases hg;exact HHW.out)) (grown_set _ h 7 (.string t2)) (fun g hg => by cases hg;exact HHW.out)) (grown_set _ h 8 (.int .i64 n3)) (fun g hg => by cases hg;exact HHW.out)) (grown_set _ h 9 (.string t4)) (fun g hg => by cases hg;exact HHW.out)⟩
             · skip
               have HNO:=qH (sT_no (u:=u) (q:=(p3,false)) hc)
               refine (text_bad b u p3 _ HR3.out hu hp3 hc).mono ?_
               rintro e wz ⟨rfl,hb⟩
               have HGz:=qH (grown_trans HG3.out (fg_below hb))
               clear hb hc
               go_wp2_with fail
               exact ⟨rfl,Or.inr ⟨okDeed_bad (by simp only [rdDeed,HRC.out,rcPut,HE.out,HE2.out,HE3.out,HNO.out];try (repeat (first | rfl | refine sN_bad ?_ | refine sT_bad ?_))),rfl⟩,HGz.out⟩
           · skip
             have HNO:=qH (sN_no (u:=u) (q:=(p2,false)) hc)
             refine (num_bad b u p2 _ HR2.out hu hp2 hc).mono ?_
             rintro e wz ⟨rfl,hb⟩
             have HGz:=qH (grown_trans HG2.out (fg_below hb))
             clear hb hc
             go_wp2_with fail
             exact ⟨rfl,Or.inr ⟨okDeed_bad (by simp only [rdDeed,HRC.out,rcPut,HE.out,HE2.out,HNO.out];try (repeat (first | rfl | refine sN_bad ?_ | refine sT_bad ?_))),rfl⟩,HGz.out⟩
         · skip
           have HNO:=qH (sT_no (u:=u) (q:=(p1,false)) hc)
           refine (text_bad b u p1 _ HR1.out hu hp1 hc).mono ?_
           rintro e wz ⟨rfl,hb⟩
           have HGz:=qH (grown_trans HG1.out (fg_below hb))
           clear hb hc
           go_wp2_with fail
           exact ⟨rfl,Or.inr ⟨okDeed_bad (by simp only [rdDeed,HRC.out,rcPut,HE.out,HNO.out];try (repeat (first | rfl | refine sN_bad ?_ | refine sT_bad ?_))),rfl⟩,HGz.out⟩
       · skip
         by_cases hk4 : k = 4
         · skip
           subst hk4
           have HRC : Hid (∀ q,rcRest u 4 q = rcDel u 4 q):=qH (fun q => by unfold rcRest;simp)
           go_wp2_with fail
           rw [<- hV,<- hx]
           clear hV hx
           by_cases hc : (txtS u p1).2.2 = 0
           · skip
             obtain ⟨t2,p2,he2,hy,hp2,hz2⟩:=sT_step hu hc
             have HZ2:=qH hz2
             have HE2:=qH he2
             have HY:=qH hy
             clear hc hy he2 hz2
             refine (text_ok b u p1 p2 t2 _ HR1.out hu hp1 HY.out).mono ?_
             rintro e w2 ⟨rfl,hr,hg⟩
             have HR2:=qH hr
             have HY2:=qH (HY1.out.kept hg hne)
             have HX2:=qH (HX1.out.kept hg hxb)
             have HG2:=qH (grown_trans HG1.out hg)
             clear hr hg HY HY1 HX1
             have x0:=HX2.out.cell 0 _ rfl
             have fx0:=HX2.out.free 0
             have x1:=HX2.out.cell 1 _ rfl
             have fx1:=HX2.out.free 1
             have x2:=HX2.out.cell 2 _ rfl
             have fx2:=HX2.out.free 2
             have x3:=HX2.out.cell 3 _ rfl
             have fx3:=HX2.out.free 3
             have x4:=HX2.out.cell 4 _ rfl
             have fx4:=HX2.out.free 4
             have x5:=HX2.out.cell 5 _ rfl
             have fx5:=HX2.out.free 5
             have x6:=HX2.out.cell 6 _ rfl
             have fx6:=HX2.out.free 6
             have x7:=HX2.out.cell 7 _ rfl
             have fx7:=HX2.out.free 7
             have x8:=HX2.out.cell 8 _ rfl
             have fx8:=HX2.out.free 8
             have x9:=HX2.out.cell 9 _ rfl
             have fx9:=HX2.out.free 9
             obtain ⟨X,hX⟩ : ∃ X,X = w2.setCell ⟨x,7,none⟩ (.string t2):=⟨_,rfl⟩
             have HXX:=qH (show BoxC X x [.int .i64 4,.int .i64 0,.int .i64 0,.int .i64 0,.int .i64 0,.int .i64 0,.string ⟨#[]⟩,.string t2,.int .i64 0,.string ⟨#[]⟩] by rw [hX];exact (HX2.out.set (j:=7) (by simp) (.string t2)))
             have HRX:=qH (show RB X b u (p2 : Int) by rw [hX];exact (HR2.out.other x 7 (.string t2) hxb))
             have HYX:=qH (show BoxC X h [.int .i64 0,.int .i64 0,.int .i64 0,.int .i64 0,.int .i64 0,.int .i64 0,.string ⟨#[]⟩,.string ⟨#[]⟩,.int .i64 0,.string ⟨#[]⟩] by rw [hX];exact (HY2.out.other ⟨x,7,none⟩ (.string t2) (by show x ≠ h;omega)))
             have HGX:=qH (show w.grownBy X (some b) by rw [hX];exact grown_own (HG2.out) (grown_set _ x 7 _) (fun g hg => by cases hg;have:=HHW.out;omega))
             have hlx:=HX2.out.lt
             clear HR2 HX2 HY2
             go_wp2_with fail
             rw [<- hX]
             clear hX x0 fx0 x1 fx1 x2 fx2 x3 fx3 x4 fx4 x5 fx5 x6 fx6 x7 fx7 x8 fx8 x9 fx9 hlx
             refine (implDeedRight_any 4 0 0 0 0 0 (⟨#[]⟩) t2 0 (⟨#[]⟩) _ (Nat.zero_le _) HZ2.out (Nat.zero_le _)).mono ?_
             rintro e w9 ⟨rfl,hb⟩
             have HX9:=qH (HXX.out.below hb)
             have HR9:=qH (HRX.out.below hb)
             have HY9:=qH (HYX.out.below hb)
             have HG9:=qH (grown_trans HGX.out (fg_below hb))
             clear hb HXX HRX HYX HGX
             have HEQ : Hid (rdDeed u (a,false) = (⟨4,0,0,0,0,0,⟨#[]⟩,t2,0,⟨#[]⟩⟩,(p2,false))):=qH (by simp only [rdDeed,HRC.out,rcDel,HE.out,HE2.out])
             obtain ⟨ob,hob⟩ : ∃ ob,deedB 4 0 0 0 0 0 (⟨#[]⟩) t2 0 (⟨#[]⟩) = ob:=⟨_,rfl⟩
             rw [hob]
             have HOB:=qH hob
             clear hob
             cases ob
             · go_wp2_with fail
               refine (must_no _).mono ?_
               rintro e w10 ⟨rfl,rfl⟩
               go_wp2_with fail
               exact ⟨rfl,Or.inr ⟨by unfold okDeed;rw [HEQ.out];exact HOB.out,rfl⟩,HG9.out⟩
             · go_wp2_with fail
               refine (must_yes _).mono ?_
               rintro e w10 ⟨rfl,rfl⟩
               have x0:=HX9.out.cell 0 _ rfl
               have x1:=HX9.out.cell 1 _ rfl
               have x2:=HX9.out.cell 2 _ rfl
               have x3:=HX9.out.cell 3 _ rfl
               have x4:=HX9.out.cell 4 _ rfl
               have x5:=HX9.out.cell 5 _ rfl
               have x6:=HX9.out.cell 6 _ rfl
               have x7:=HX9.out.cell 7 _ rfl
               have x8:=HX9.out.cell 8 _ rfl
               have x9:=HX9.out.cell 9 _ rfl
               have y0:=HY9.out.cell 0 _ rfl
               have fy0:=HY9.out.free 0
               have y1:=HY9.out.cell 1 _ rfl
               have fy1:=HY9.out.free 1
               have y2:=HY9.out.cell 2 _ rfl
               have fy2:=HY9.out.free 2
               have y3:=HY9.out.cell 3 _ rfl
               have fy3:=HY9.out.free 3
               have y4:=HY9.out.cell 4 _ rfl
               have fy4:=HY9.out.free 4
               have y5:=HY9.out.cell 5 _ rfl
               have fy5:=HY9.out.free 5
               have y6:=HY9.out.cell 6 _ rfl
               have fy6:=HY9.out.free 6
               have y7:=HY9.out.cell 7 _ rfl
               have fy7:=HY9.out.free 7
               have y8:=HY9.out.cell 8 _ rfl
               have fy8:=HY9.out.free 8
               have y9:=HY9.out.cell 9 _ rfl
               have fy9:=HY9.out.free 9
               have hly:=HY9.out.lt
               go_wp2_with fail
               exact bodyPost_ret (v:=.agg #[.int .i64 4,.int .i64 0,.int .i64 0,.int .i64 0,.int .i64 0,.int .i64 0,.string ⟨#[]⟩,.string t2,.int .i64 0,.string ⟨#[]⟩]) (by simp [results,Tryz.results74,go_sem,y0,y1,y2,y3,y4,y5,y6,y7,y8,y9]) rfl ⟨Or.inl ⟨by rw [okDeed_iff,HEQ.out];exact ⟨rfl,HOB.out⟩,by rw [HEQ.out];rfl,by rw [HEQ.out];exact ((((((((((HR9.out.other h 0 (.int .i64 4) hne).other h 1 (.int .i64 0) hne).other h 2 (.int .i64 0) hne).other h 3 (.int .i64 0) hne).other h 4 (.int .i64 0) hne).other h 5 (.int .i64 0) hne).other h 6 (.string ⟨#[]⟩) hne).other h 7 (.string t2) hne).other h 8 (.int .i64 0) hne).other h 9 (.string ⟨#[]⟩) hne)⟩,grown_own (grown_own (grown_own (grown_own (grown_own (grown_own (grown_own (grown_own (grown_own (grown_own (HG9.out) (grown_set _ h 0 (.int .i64 4)) (fun g hg => by cases hg;exact HHW.out)) (grown_set _ h 1 (.int .i64 0)) (fun g hg => by cases hg;exact HHW.out)) (grown_set _ h 2 (.int .i64 0)) (fun g hg => by cases hg;exact HHW.out)) (grown_set _ h 3 (.int .i64 0)) (fun g hg => by cases hg;exact HHW.out)) (grown_set _ h 4 (.int .i64 0)) (fun g hg => by cases hg;exact HHW.out)) (grown_set _ h 5 (.int .i64 0)) (fun g hg => by cases hg;exact HHW.out)) (grown_set _ h 6 (.string ⟨#[]⟩)) (fun g hg => by cases hg;exact HHW.out)) (grown_set _ h 7 (.string t2)) (fun g hg => by cases hg;exact HHW.out)) (grown_set _ h 8 (.int .i64 0)) (fun g hg => by cases hg;exact HHW.out)) (grown_set _ h 9 (.string ⟨#[]⟩)) (fun g hg => by cases hg;exact HHW.out)⟩
           · skip
             have HNO:=qH (sT_no (u:=u) (q:=(p1,false)) hc)
             refine (text_bad b u p1 _ HR1.out hu hp1 hc).mono ?_
             rintro e wz ⟨rfl,hb⟩
             have HGz:=qH (grown_trans HG1.out (fg_below hb))
             clear hb hc
             go_wp2_with fail
             exact ⟨rfl,Or.inr ⟨okDeed_bad (by simp only [rdDeed,HRC.out,rcDel,HE.out,HNO.out];try (repeat (first | rfl | refine sN_bad ?_ | refine sT_bad ?_))),rfl⟩,HGz.out⟩
         · skip
           have ka : (k == 1) = false:=by simp [hk1]
           have kb : (k == 2) = false:=by simp [hk2]
           have kc : (k == 3) = false:=by simp [hk3]
           have kd : (k == 4) = false:=by simp [hk4]
           have HRC : Hid (∀ q,rcRest u k q = rcNone k q):=qH (fun q => by unfold rcRest;simp [hk1,hk2,hk3,hk4])
           go_wp2_with fail
           rw [<- hV,<- hx]
           clear hV hx
           have HXX:=HX1
           have HRX:=HR1
           have HYX:=HY1
           have HGX:=HG1
           refine (implDeedRight_any k 0 0 0 0 0 (⟨#[]⟩) (⟨#[]⟩) 0 (⟨#[]⟩) _ (Nat.zero_le _) (Nat.zero_le _) (Nat.zero_le _)).mono ?_
           rintro e w9 ⟨rfl,hb⟩
           have HX9:=qH (HXX.out.below hb)
           have HR9:=qH (HRX.out.below hb)
           have HY9:=qH (HYX.out.below hb)
           have HG9:=qH (grown_trans HGX.out (fg_below hb))
           clear hb HXX HRX HYX HGX
           have HEQ : Hid (rdDeed u (a,false) = (⟨k,0,0,0,0,0,⟨#[]⟩,⟨#[]⟩,0,⟨#[]⟩⟩,(p1,false))):=qH (by simp only [rdDeed,HRC.out,rcNone,HE.out])
           obtain ⟨ob,hob⟩ : ∃ ob,deedB k 0 0 0 0 0 (⟨#[]⟩) (⟨#[]⟩) 0 (⟨#[]⟩) = ob:=⟨_,rfl⟩
           rw [hob]
           have HOB:=qH hob
           clear hob
           cases ob
           · go_wp2_with fail
             refine (must_no _).mono ?_
             rintro e w10 ⟨rfl,rfl⟩
             go_wp2_with fail
             exact ⟨rfl,Or.inr ⟨by unfold okDeed;rw [HEQ.out];exact HOB.out,rfl⟩,HG9.out⟩
           · go_wp2_with fail
             refine (must_yes _).mono ?_
             rintro e w10 ⟨rfl,rfl⟩
             have x0:=HX9.out.cell 0 _ rfl
             have x1:=HX9.out.cell 1 _ rfl
             have x2:=HX9.out.cell 2 _ rfl
             have x3:=HX9.out.cell 3 _ rfl
             have x4:=HX9.out.cell 4 _ rfl
             have x5:=HX9.out.cell 5 _ rfl
             have x6:=HX9.out.cell 6 _ rfl
             have x7:=HX9.out.cell 7 _ rfl
             have x8:=HX9.out.cell 8 _ rfl
             have x9:=HX9.out.cell 9 _ rfl
             have y0:=HY9.out.cell 0 _ rfl
             have fy0:=HY9.out.free 0
             have y1:=HY9.out.cell 1 _ rfl
             have fy1:=HY9.out.free 1
             have y2:=HY9.out.cell 2 _ rfl
             have fy2:=HY9.out.free 2
             have y3:=HY9.out.cell 3 _ rfl
             have fy3:=HY9.out.free 3
             have y4:=HY9.out.cell 4 _ rfl
             have fy4:=HY9.out.free 4
             have y5:=HY9.out.cell 5 _ rfl
             have fy5:=HY9.out.free 5
             have y6:=HY9.out.cell 6 _ rfl
             have fy6:=HY9.out.free 6
             have y7:=HY9.out.cell 7 _ rfl
             have fy7:=HY9.out.free 7
             have y8:=HY9.out.cell 8 _ rfl
             have fy8:=HY9.out.free 8
             have y9:=HY9.out.cell 9 _ rfl
             have fy9:=HY9.out.free 9
             have hly:=HY9.out.lt
             go_wp2_with fail
             exact bodyPost_ret (v:=.agg #[.int .i64 k,.int .i64 0,.int .i64 0,.int .i64 0,.int .i64 0,.int .i64 0,.string ⟨#[]⟩,.string ⟨#[]⟩,.int .i64 0,.string ⟨#[]⟩]) (by simp [results,Tryz.results74,go_sem,y0,y1,y2,y3,y4,y5,y6,y7,y8,y9]) rfl ⟨Or.inl ⟨by rw [okDeed_iff,HEQ.out];exact ⟨rfl,HOB.out⟩,by rw [HEQ.out];rfl,by rw [HEQ.out];exact ((((((((((HR9.out.other h 0 (.int .i64 k) hne).other h 1 (.int .i64 0) hne).other h 2 (.int .i64 0) hne).other h 3 (.int .i64 0) hne).other h 4 (.int .i64 0) hne).other h 5 (.int .i64 0) hne).other h 6 (.string ⟨#[]⟩) hne).other h 7 (.string ⟨#[]⟩) hne).other h 8 (.int .i64 0) hne).other h 9 (.string ⟨#[]⟩) hne)⟩,grown_own (grown_own (grown_own (grown_own (grown_own (grown_own (grown_own (grown_own (grown_own (grown_own (HG9.out) (grown_set _ h 0 (.int .i64 k)) (fun g hg => by cases hg;exact HHW.out)) (grown_set _ h 1 (.int .i64 0)) (fun g hg => by cases hg;exact HHW.out)) (grown_set _ h 2 (.int .i64 0)) (fun g hg => by cases hg;exact HHW.out)) (grown_set _ h 3 (.int .i64 0)) (fun g hg => by cases hg;exact HHW.out)) (grown_set _ h 4 (.int .i64 0)) (fun g hg => by cases hg;exact HHW.out)) (grown_set _ h 5 (.int .i64 0)) (fun g hg => by cases hg;exact HHW.out)) (grown_set _ h 6 (.string ⟨#[]⟩)) (fun g hg => by cases hg;exact HHW.out)) (grown_set _ h 7 (.string ⟨#[]⟩)) (fun g hg => by cases hg;exact HHW.out)) (grown_set _ h 8 (.int .i64 0)) (fun g hg => by cases hg;exact HHW.out)) (grown_set _ h 9 (.string ⟨#[]⟩)) (fun g hg => by cases hg;exact HHW.out)⟩
 · skip
   have HNO:=qH (sN_no (u:=u) (q:=(a,false)) hc)
   refine (num_bad b u a _ HR0.out hu ha hc).mono ?_
   rintro e wz ⟨rfl,hb⟩
   have HGz:=qH (grown_trans HG0.out (fg_below hb))
   clear hb hc
   go_wp2_with fail
   exact ⟨rfl,Or.inr ⟨okDeed_bad (by simp [rdDeed,HNO.out,rcRest,rcNone]),rfl⟩,HGz.out⟩
theorem leaves_ret {P : Program} {fn : Func} {tmps : Array Value} {R : Ending -> World -> Prop} {w : World} {v : Value} (h : (results fn tmps).run P w = .ok v w) (hr : R (.returned v) w) : Leaves P fn tmps R [] .returning w:=⟨v,h,hr⟩
theorem openS_is {s : ByteArray} (h : (openS s).2.2 = 0) : openS s = ((openS s).1,0,0):=Prod.ext rfl (Prod.ext (openS_at s) h)
theorem openS_fits {s : ByteArray} (h : (openS s).2.2 = 0) : (openS s).1.size <= 8000:=by
 unfold openS at h ⊢
 split at h
 · exact absurd h (by decide)
 · rename_i h1
   split at h
   · exact absurd h (by decide)
   · rename_i h2
     rw [if_neg h1,if_neg h2]
     unfold unsS
     split
     · dsimp only
       unfold bodyS
       rw [ByteArray.size_extract]
       omega
     · exact Nat.zero_le _
theorem catchQ_panicking (h : Nat) (c : Int) (v0 : Value) (w : World) (h0 : w.cell? ⟨h,0,none⟩ = some v0) (hf : w.frozen? ⟨h,0,none⟩ = false) :
 CallsD Tryz.prog 70 #[.pointer (some ⟨h,0,none⟩)] (.panicking [{ v:=errV c,recovered:=false }]) w fun e u' w' => e = .returned (.tuple #[]) /\ u' = .panicking [{ v:=errV c,recovered:=true }] /\ w'.cell? ⟨h,0,none⟩ = some (.slice none 0 0) /\ Below h w w':=by
 have hg : ∀ u : World,(eqGuard BinOp.neq 20 (.tmp 1) (.const .nilIface) (errV c) .nilIface).run Tryz.prog u = .ok () u:=fun u => by kernel_rfl
 have hb : ∀ u : World,(binOp BinOp.neq 20 (errV c) .nilIface).run Tryz.prog u = .ok (.bool true) u:=fun u => by kernel_rfl
 have hlt : h < w.heap.size:=by
  rcases Nat.lt_or_ge h w.heap.size with h2 | h2
  · exact h2
  · simp [World.cell?,Array.getElem?_eq_none h2] at h0
 refine callsD_of_wpS Tryz.func70 rfl fun c₀ cs hu => ?_
 apply wpS_seq
 apply wpS_region
 simp [wpOpsS,go_sem,recoverD,hu,Tryz.ntmps70,Exit.thenS,hg,hb]
 change Code.wpS _ _ _ { tmps:=#[.pointer (some ⟨h,0,none⟩),errV c,.bool true],defers:=[] } _ _
 refine wpS_of_wp ?_
 go_wp2_with fail
 exact ⟨rfl,_,rfl,.tuple #[],by simp [results,Tryz.results70,go_sem],rfl,rfl,World.cell?_setCell_same _ _ _ h0,(Below.refl _ _).setCell (p:=⟨h,0,none⟩) (Nat.le_refl _) _⟩
theorem catchQ_idle (h : Nat) (w : World) :
 CallsD Tryz.prog 70 #[.pointer (some ⟨h,0,none⟩)] .returning w fun e u' w' => e = .returned (.tuple #[]) /\ u' = .returning /\ w' = w:=by
 refine callsD_of_wpS Tryz.func70 rfl fun c₀ cs hu => ?_
 apply wpS_seq
 apply wpS_region
 simp [wpOpsS,go_sem,recoverD,hu,Tryz.ntmps70,Exit.thenS]
 change Code.wpS _ _ _ { tmps:=#[.pointer (some ⟨h,0,none⟩),.nilIface,.bool false],defers:=[] } _ _
 refine wpS_of_wp ?_
 go_wp2_with fail
 refine ⟨rfl,.returning,?_,.tuple #[],by simp [results,Tryz.results70,go_sem],rfl,rfl,rfl⟩
 cases c₀
 simp_all
theorem sN_le {u : ByteArray} {q : Plc} (h : q.1 <= u.size) : (sN u q).2.1 <= u.size:=by
 by_cases hc : (rdS u q.1 10 0 0).2.2 = 0
 · exact (sN_yes hc).2.2
 · rw [sN_no hc];exact h
theorem sT_le {u : ByteArray} {q : Plc} (h : q.1 <= u.size) : (sT u q).2.1 <= u.size:=by
 by_cases hc : (txtS u q.1).2.2 = 0
 · exact (sT_yes hc).2.2
 · rw [sT_no hc];exact h
theorem rdDeed_le {u : ByteArray} {q : Plc} (h : q.1 <= u.size) : (rdDeed u q).2.1 <= u.size:=by
 unfold rdDeed rcRest
 have h1:=sN_le h
 split
 · exact sN_le (sN_le (sN_le (sN_le h1)))
 · split
   · exact sT_le (sN_le h1)
   · split
     · exact sT_le (sN_le (sT_le h1))
     · split
       · exact sT_le h1
       · exact h1
theorem RB.drew {w : World} {b : Nat} {u : ByteArray} {p : Int} (k : RB w b u p) : RB w.drew b u p:=⟨k.lt,k.c0,k.c1,k.free⟩
section
variable {P : Program} {ops : Array Oper} {md : Region.Mode} {Q : Exit -> Act -> World -> Prop}
theorem any_two {i j k : Nat} {listed : Array Bool} {a : Act} {w : World} (hr : Region.ready md ops listed = [i,j]) (h1 : wpOp P ops Q i (fun a' w' => wpAny P md ops Q k (listed.setIfInBounds i true) a' w') a w) (h2 : wpOp P ops Q j (fun a' w' => wpAny P md ops Q k (listed.setIfInBounds j true) a' w') a w) : wpAny P md ops Q (k + 1) listed a w:=by
 refine ⟨fun h0 => (by rw [hr] at h0;cases h0),fun m hm => ?_⟩
 rw [hr] at hm
 rcases List.mem_cons.1 hm with rfl | hm
 · exact h1
 · obtain rfl : m = j:=by simpa using hm
   exact h2
theorem any_one {i k : Nat} {listed : Array Bool} {a : Act} {w : World} (hr : Region.ready md ops listed = [i]) (h1 : wpOp P ops Q i (fun a' w' => wpAny P md ops Q k (listed.setIfInBounds i true) a' w') a w) : wpAny P md ops Q (k + 1) listed a w:=by
 refine ⟨fun h0 => (by rw [hr] at h0;cases h0),fun m hm => ?_⟩
 rw [hr] at hm
 obtain rfl : m = i:=by simpa using hm
 exact h1
theorem op_value {i : Nat} {o : Oper} {K : Act -> World -> Prop} {a : Act} {w : World} {v : Value} (ho : ops[i]? = some o) (hg : o.guard = none) (he : (execOp a.eval o).run P w = .ok (.value v) w) (h : K (a.put o.dst v) w) : wpOp P ops Q i K a w :=
 TillZ.opZ_wp ⟨o,ho,hg,by rw [he];exact h⟩
theorem region_any {id : Nat} {a : Act} {w : World} (hm : P.follows .mixedOrders = true) (h : wpAny P .any ops Q ops.size (Array.replicate ops.size false) a w.drew) : (Code.region id ops true).wp P Q a w:=wp_region_any hm h
theorem op_panic {i : Nat} {o : Oper} {K : Act -> World -> Prop} {a : Act} {w : World} {f : FuncId} {args : Array Value} (ho : ops[i]? = some o) (hg : o.guard = none) (he : (execOp a.eval o).run P w = .ok (.enter f args) w)
 (h : Calls P f args w fun e w'' => ∃ ch,e = .panicked ch /\ Q (.panic ch) a w'') : wpOp P ops Q i K a w:=by
 unfold wpOp
 rw [ho]
 dsimp only
 rw [if_pos (by simp [Region.wanted,hg])]
 refine .inl ?_
 unfold Oper.wp
 rw [he]
 exact Calls.mono h (fun e w'' he => by obtain ⟨ch,rfl,hq⟩:=he;exact hq)
end
def NewDds (l : List Dd) (w : World) (e : Ending) (w' : World) : Prop :=
 ∃ a n c,e = .returned (.slice a n c) /\ w'.ownsRow w.heap.size 34 ddE.k (.slice a n c) n (ddE.flat l) /\ Below w.heap.size w w'
theorem deedsIn_any (s : ByteArray) (w : World) (hs : s.size <= maxLen) (hg : ET w) :
 Calls Tryz.prog 38 #[.string s] w (NewDds (rdPart s) w):=by
 have hmf : ∀ (fn : Fn) (first cap : Array Value) (u : World),(Instr.makeFunc fn first cap).run Tryz.prog u = .ok (.func fn first cap) u:=fun _ _ _ _ => rfl
 obtain ⟨W,hW⟩ : ∃ W,W = w.alloc (.cells #[.slice none 0 0] 37):=⟨_,rfl⟩
 obtain ⟨h,hh⟩ : ∃ h,h = w.heap.size:=⟨_,rfl⟩
 have HL0:=qH (show BoxC W h [.slice none 0 0] by rw [hW,hh];exact BoxC.made _ _ _)
 have HB0 : Hid (Below h w W):=qH (by rw [hW,hh];exact (Below.refl _ _).alloc (Nat.le_refl _) _)
 have HG0 : Hid (ET W):=qH (by rw [hW];exact hg.alloc _)
 have HHE:=qH hh
 clear hg
 by_cases hc : (openS s).2.2 = 0
 · have HI:=qH (openS_is hc)
   have hf8:=openS_fits hc
   have HRP : Hid (rdPart s = rdTx (openS s).1):=qH (by unfold rdPart;rw [if_pos hc])
   generalize (openS s).1 = t at *
   clear hc
   go_enter_defers Tryz.func38,Tryz.ntmps38
   go_wp2_with fail
   rw [<- hW,<- hh]
   clear hW hh
   refine (unsealed_ok s t _ hs HG0.out HI.out).mono ?_
   rintro e w1 ⟨rfl,hb⟩
   have HL1:=qH (HL0.out.below hb)
   have HB1:=qH (HB0.out.trans (hb.mono (Nat.le_of_lt HL0.out.lt)))
   obtain ⟨V,hV⟩ : ∃ V,V = w1.alloc (.cells #[.string t,.int .i64 0] 108):=⟨_,rfl⟩
   obtain ⟨b,hb2⟩ : ∃ b,b = w1.heap.size:=⟨_,rfl⟩
   have hb1 : Below w1.heap.size w1 V:=by rw [hV];exact (Below.refl _ _).alloc (Nat.le_refl _) _
   have hhw : h < w1.heap.size:=HL1.out.lt
   have HBV:=qH (HB1.out.trans (hb1.mono (Nat.le_of_lt hhw)))
   have HLV:=qH (HL1.out.below hb1)
   have HRV:=qH (show RB V b t ((0 : Nat) : Int) by rw [hV,hb2];exact ⟨by simp,by simp,by simp,by simp⟩)
   have hhb : h < b:=by omega
   have hne : h ≠ b:=by omega
   clear hb hb1 HL1 HB1 hhw
   go_wp2_with fail
   rw [<- hV,<- hb2]
   clear hV hb2
   by_cases hc : (rdS t 0 10 0 0).2.2 = 0
   · obtain ⟨n,p1,he,hy,hp1⟩:=sN_step hc
     have HE:=qH he
     have HY:=qH hy
     clear hc hy he
     refine (num_ok b t 0 p1 n _ HRV.out hf8 (Nat.zero_le _) HY.out).mono ?_
     rintro e w2 ⟨rfl,hr,hg⟩
     have HR2:=qH hr
     have HL2:=qH (HLV.out.kept hg hne)
     have HB2:=qH (below_kept HBV.out hg (Nat.le_of_lt HLV.out.lt) (Nat.le_of_lt hhb))
     clear hr hg HY HLV HBV HRV
     by_cases hn : 1 <= n /\ n <= 10
     · obtain ⟨hn1,hn2⟩:=hn
       go_wp2_with fail
       refine (must_yes _).mono ?_
       rintro e w3 ⟨rfl,rfl⟩
       go_wp2_with fail
       have hh2 : h < w2.heap.size:=HL2.out.lt
       have hb2 : b < w2.heap.size:=HR2.out.lt
       obtain ⟨q0,hq0⟩ : ∃ q0 : Plc,q0 = (p1,false):=⟨_,rfl⟩
       have HQ0:=qH hq0
       go_loopw [20] (fun i wr => ∃ (j : Nat) (a : Option Addr) (c : Nat),i = .int .i64 j /\ (j : Int) <= n /\ Hid (okTo t q0 j = true) /\ Hid (RB wr b t ((plAt t q0 j).1 : Int)) /\ Hid ((plAt t q0 j).2 = false) /\ Hid ((plAt t q0 j).1 <= t.size) /\ Hid (BoxC wr h [.slice a j c]) /\ Hid (wr.ownsRow w2.heap.size 34 ddE.k (.slice a j c) j (ddE.flat (ddsTo t q0 j))) /\ Hid (Below h w wr) /\ w2.heap.size <= wr.heap.size) (fun i _ => n.toNat - (intOf i).toNat)
       case atStart => exact ⟨0,none,0,rfl,by omega,rfl,by rw [hq0];exact HR2,by rw [hq0];rfl,by rw [hq0];exact hp1,HL2,World.ownsRow_nil _ _ _ _,HB2,Nat.le_refl _⟩
       case round =>
        obtain ⟨j,a,c,rfl,hj,HOK,HRj,HPF,HPL,HLj,HOj,HBj,hsz⟩:=hrel
        by_cases hlt : (j : Int) < n
        · obtain ⟨pj,hpj⟩ : ∃ pj,plAt t q0 j = (pj,false):=⟨_,Prod.ext rfl HPF.out⟩
          have HPJ:=qH hpj
          rw [hpj] at HRj HPL
          dsimp only at HRj HPL
          clear hpj HPF
          have hmx : Tryz.prog.follows .mixedOrders = true:=by kernel_rfl
          by_cases hd : okDeed t (pj,false) = true
          · go_wp2_with fail
            obtain ⟨ti,hi,hz,hsy,hy⟩:=info_parts infoDeed
            refine TillZ.region (t:=5) hmx (fun u => BoxC u h [.slice a j c]) ?_
            have HR0:=qH HRj.out.drew
            have HL0:=qH HLj.out.drew
            have HO0:=qH (own_below HOj.out (Below.refl _ _).drew)
            have HB0:=qH HBj.out.drew
            have hsz0 : w2.heap.size <= wr.drew.heap.size:=hsz
            have hS0:=HL0.out
            clear HRj HLj HOj HBj hsz
            generalize wr.drew = u0 at *
            refine TillZ.take4 (i:=0) (v:=.slice a j c) rfl rfl rfl (by kernel_rfl) hS0 (fun u hu => by have z0:=hu.cell 0 _ rfl;go_simp) ?_
            simp only [pS,List.set,zT,zZ]
            refine TillZ.take4 (i:=1) (v:=.pointer (some ⟨b,0,none⟩)) rfl rfl rfl (by kernel_rfl) hS0 (fun u hu => by go_simp) ?_
            simp only [pS,List.set,zT,zZ,zU]
            refine TillZ.call (i:=2) (f:=74) (args:=#[.pointer (some ⟨b,0,none⟩)]) (by kernel_rfl) rfl rfl (by kernel_rfl) (by go_simp) ?_
            refine Calls.mono (deedIn_any b t pj u0 HR0.out hf8 HPL.out) ?_
            rintro e u1 ⟨hx,hg⟩
            rcases hx.symm with ⟨hno,_⟩ | ⟨_,rfl,hr⟩
            · exact absurd hno (by rw [hd];decide)
            have HR1:=qH hr
            have HL1:=qH (HL0.out.kept hg hne)
            have HB1:=qH (below_kept HB0.out hg (Nat.le_of_lt HL0.out.lt) (Nat.le_of_lt hhb))
            have HO1:=qH (HO0.out.kept hg (Or.inr (fun e => by have:=(HO0.out.lt b e).1;omega)))
            have hsz1 : w2.heap.size <= u1.heap.size:=Nat.le_trans hsz0 hg.size
            clear hr hg hS0 HL0 HB0 HO0 HR0 hsz0
            refine ⟨_,rfl,HL1.out,?_⟩
            obtain ⟨D,hD⟩ : ∃ D,D = (rdDeed t (pj,false)).1:=⟨_,rfl⟩
            rw [<- hD]
            have HDD:=qH hD
            clear hD
            unfold ddV
            simp only [pS,List.set,zT,zZ,zU]
            have HX2 : Hid (SR ddE ddD (u1.alloc (.cells #[.int .i64 D.kd,.int .i64 D.gn,.int .i64 D.nd,.int .i64 D.mn,.int .i64 D.ck,.int .i64 D.no,.string D.lk,.string D.nm,.int .i64 D.tm,.string D.bd] 34)) (some ⟨u1.heap.size,0,none⟩) 1 1 [D]):=qH (SR.own (by decide) (World.ownsRow_lit u1 #[.int .i64 D.kd,.int .i64 D.gn,.int .i64 D.nd,.int .i64 D.mn,.int .i64 D.ck,.int .i64 D.no,.string D.lk,.string D.nm,.int .i64 D.tm,.string D.bd] 1 (Nat.le_refl _) (by decide) rfl))
            have hal : Below u1.heap.size u1 (u1.alloc (.cells #[.int .i64 D.kd,.int .i64 D.gn,.int .i64 D.nd,.int .i64 D.mn,.int .i64 D.ck,.int .i64 D.no,.string D.lk,.string D.nm,.int .i64 D.tm,.string D.bd] 34)):=(Below.refl _ _).alloc (Nat.le_refl _) _
            have HL2':=qH (HL1.out.below hal)
            have HR2':=qH (HR1.out.below hal)
            have HB2':=qH (HB1.out.trans (hal.mono (Nat.le_of_lt HL1.out.lt)))
            have HO2':=qH (own_below HO1.out hal)
            have hsz2 : w2.heap.size <= (u1.alloc (.cells #[.int .i64 D.kd,.int .i64 D.gn,.int .i64 D.nd,.int .i64 D.mn,.int .i64 D.ck,.int .i64 D.no,.string D.lk,.string D.nm,.int .i64 D.tm,.string D.bd] 34)).heap.size:=Nat.le_trans hsz1 hal.size
            refine TillZ.one (i:=3) (by kernel_rfl) ?_
            refine TillZ.opz (i:=3) (v:=.slice (some ⟨u1.heap.size,0,none⟩) 1 1) (w':=u1.alloc (.cells #[.int .i64 D.kd,.int .i64 D.gn,.int .i64 D.nd,.int .i64 D.mn,.int .i64 D.ck,.int .i64 D.no,.string D.lk,.string D.nm,.int .i64 D.tm,.string D.bd] 34)) rfl rfl rfl (by go_simp) HL2'.out ?_
            simp only [pS,List.set,zT,zZ,zU]
            clear hal HL1 HR1 HB1 HO1 hsz1
            generalize u1.alloc (.cells #[.int .i64 D.kd,.int .i64 D.gn,.int .i64 D.nd,.int .i64 D.mn,.int .i64 D.ck,.int .i64 D.no,.string D.lk,.string D.nm,.int .i64 D.tm,.string D.bd] 34) = u2 at *
            refine TillZ.one (i:=4) (by kernel_rfl) ?_
            refine append_opz ddE ddD (i:=4) (.tmp 22) (.tmp 25) 37 rfl rfl rfl rfl 34 ti _ _ Tryz.underlying37 hi hz hsy hy rfl (by decide) (by decide) w2.heap.size (.slice a j c) j (ddsTo t q0 j) rfl HO2'.out _ 1 1 [D] rfl HX2.out hsz2 (by omega) (by omega) (fun v3 u3 O3 G3 => ?_)
            have HL3:=qH (HL2'.out.grown G3 (fun e => by have:=(HO2'.out.lt h e.symm).1;omega))
            have HR3:=qH (show RB u3 b t _ from ⟨Nat.lt_of_lt_of_le HR2'.out.lt G3.size,(World.cell?_of_block (a:=⟨b,0,none⟩) (G3.block b HR2'.out.lt (fun e => by have:=(HO2'.out.lt b e.symm).1;omega))).trans HR2'.out.c0,(World.cell?_of_block (a:=⟨b,1,none⟩) (G3.block b HR2'.out.lt (fun e => by have:=(HO2'.out.lt b e.symm).1;omega))).trans HR2'.out.c1,(World.frozen?_of_block (a:=⟨b,1,none⟩) (G3.block b HR2'.out.lt (fun e => by have:=(HO2'.out.lt b e.symm).1;omega))).trans HR2'.out.free⟩)
            have HB3:=qH (HB2'.out.grown G3 (Nat.le_of_lt HL2'.out.lt) (fun k hk => by have:=(HO2'.out.lt k hk).1;omega))
            have hsz3 : w2.heap.size <= u3.heap.size:=Nat.le_trans hsz2 G3.size
            obtain ⟨a',c',rfl⟩:=own_shape O3
            have HO3:=qH O3
            refine ⟨HL3.out,?_⟩
            simp only [pS,List.set,zT,zZ,zU]
            clear O3 G3 HL2' HR2' HB2' HO2' hsz2 HX2
            have z0:=HL3.out.cell 0 _ rfl
            have f0:=HL3.out.free 0
            have zlt:=HL3.out.lt
            refine TillZ.hand_skip (w':=u3.setCell ⟨h,0,none⟩ (.slice a' (j + 1) c')) (by kernel_rfl) rfl rfl (by go_simp) ?_
            simp only [pN,zT,zZ,zU]
            refine TillZ.any_done (by kernel_rfl) ?_ _
            clear z0 f0 zlt
            go_wp2_with fail
            go_roundw
            case rel => exact ⟨j + 1,a',c',by go_num,by omega,by unfold Hid;rw [okTo_succ,HOK.out,HPJ.out,hd];rfl,by unfold Hid;show RB _ b t (((rdDeed t (plAt t q0 j)).2.1 : Nat) : Int);rw [HPJ.out];exact HR3.out.other h 0 _ hne,by unfold Hid;show (rdDeed t (plAt t q0 j)).2.2 = false;rw [HPJ.out];exact (okDeed_iff.1 hd).1,by unfold Hid;show (rdDeed t (plAt t q0 j)).2.1 <= _;rw [HPJ.out];exact rdDeed_le HPL.out,HL3.out.set (j:=0) (by simp) _,by unfold Hid;rw [ddsTo_succ];unfold ddAt;rw [HPJ.out,<- HDD.out];exact own_other HO3.out (b:=h) (fun g hg => by have:=(HO3.out.lt g hg).1;omega) _ _ rfl,HB3.out.setCell (p:=⟨h,0,none⟩) (Nat.le_refl _) _,by simpa using hsz3⟩
            case measure => simp [intOf];omega
          · have hd2 : okDeed t (pj,false) = false:=by cases hx : okDeed t (pj,false) <;> simp_all
            have HBAD : Hid (∀ u,RB u b t (pj : Int) -> Calls Tryz.prog 74 #[.pointer (some ⟨b,0,none⟩)] u fun e w' => e = .panicked [{ v:=errV 3,recovered:=false }] /\ u.grownBy w' (some b)):=qH (fun u hu => (deedIn_any b t pj u hu hf8 HPL.out).mono (fun e w' hh => by
             obtain ⟨hx,hg⟩:=hh
             rcases hx with ⟨hno,_⟩ | ⟨_,he⟩
             · rw [hd2] at hno;cases hno
             · exact ⟨he,hg⟩))
            have HRT : Hid (rdTx t = []):=qH (rdTx_no (by rw [HE.out];dsimp only;rw [<- HQ0.out];rintro ⟨_,_,hk,_⟩;rw [okTo_no (n:=n.toNat) (i:=j) (by rw [HPJ.out];exact hd2) (by omega)] at hk;cases hk))
            have hcl:=HLj.out.cell 0 _ rfl
            have HR0:=qH HRj.out.drew
            have HL0:=qH HLj.out.drew
            have HB0:=qH HBj.out.drew
            go_wp2_with fail
            have hFn : wr.drew.cell? ⟨h,0,none⟩ = some (.slice a j c):=hcl
            refine region_any hmx ?_
            clear HRj HLj HBj HOj hcl hsz
            generalize wr.drew = u0 at *
            refine any_two (i:=0) (j:=1) (by kernel_rfl) ?_ ?_
            · refine op_value (v:=.slice a j c) rfl rfl (by go_simp) ?_
              simp only [pS,List.set,zT,zZ]
              refine any_one (i:=1) (by kernel_rfl) ?_
              refine op_value (v:=.pointer (some ⟨b,0,none⟩)) rfl rfl (by go_simp) ?_
              simp only [pS,List.set,zT,zZ,zU]
              refine any_one (i:=2) (by kernel_rfl) ?_
              refine op_panic (f:=74) (args:=#[.pointer (some ⟨b,0,none⟩)]) rfl rfl (by go_simp) ?_
              refine Calls.mono (HBAD.out _ HR0.out) ?_
              rintro e u1 ⟨rfl,hg⟩
              have HL1:=qH (HL0.out.kept hg hne)
              have HB1:=qH (below_kept HB0.out hg (Nat.le_of_lt HL0.out.lt) (Nat.le_of_lt hhb))
              clear hg
              refine ⟨_,rfl,?_⟩
              go_wp2_with fail
              refine leaves_cons (f:=70) (args:=#[.pointer (some ⟨h,0,none⟩)]) (by simp) (by simp [go_sem]) ?_
              refine (catchQ_panicking h 3 _ u1 (HL1.out.cell 0 _ rfl) (HL1.out.free 0)).mono ?_
              rintro e u' w9 ⟨rfl,rfl,r0,hb9⟩
              have hbl:=HB1.out.trans hb9
              rw [HHE.out] at hbl
              exact leaves_ret (v:=.slice none 0 0) (by simp [results,Tryz.results38,go_sem,r0]) ⟨none,0,0,rfl,by rw [HRP.out,HRT.out];exact World.ownsRow_nil _ _ _ _,hbl⟩
            · refine op_value (v:=.pointer (some ⟨b,0,none⟩)) rfl rfl (by go_simp) ?_
              simp only [pS,List.set,zT,zZ,zU]
              refine any_two (i:=0) (j:=2) (by kernel_rfl) ?_ ?_
              · refine op_value (v:=.slice a j c) rfl rfl (by go_simp) ?_
                simp only [pS,List.set,zT,zZ]
                refine any_one (i:=2) (by kernel_rfl) ?_
                refine op_panic (f:=74) (args:=#[.pointer (some ⟨b,0,none⟩)]) rfl rfl (by go_simp) ?_
                refine Calls.mono (HBAD.out _ HR0.out) ?_
                rintro e u1 ⟨rfl,hg⟩
                have HL1:=qH (HL0.out.kept hg hne)
                have HB1:=qH (below_kept HB0.out hg (Nat.le_of_lt HL0.out.lt) (Nat.le_of_lt hhb))
                clear hg
                refine ⟨_,rfl,?_⟩
                go_wp2_with fail
                refine leaves_cons (f:=70) (args:=#[.pointer (some ⟨h,0,none⟩)]) (by simp) (by simp [go_sem]) ?_
                refine (catchQ_panicking h 3 _ u1 (HL1.out.cell 0 _ rfl) (HL1.out.free 0)).mono ?_
                rintro e u' w9 ⟨rfl,rfl,r0,hb9⟩
                have hbl:=HB1.out.trans hb9
                rw [HHE.out] at hbl
                exact leaves_ret (v:=.slice none 0 0) (by simp [results,Tryz.results38,go_sem,r0]) ⟨none,0,0,rfl,by rw [HRP.out,HRT.out];exact World.ownsRow_nil _ _ _ _,hbl⟩
              · skip
                refine op_panic (f:=74) (args:=#[.pointer (some ⟨b,0,none⟩)]) rfl rfl (by go_simp) ?_
                refine Calls.mono (HBAD.out _ HR0.out) ?_
                rintro e u1 ⟨rfl,hg⟩
                have HL1:=qH (HL0.out.kept hg hne)
                have HB1:=qH (below_kept HB0.out hg (Nat.le_of_lt HL0.out.lt) (Nat.le_of_lt hhb))
                clear hg
                refine ⟨_,rfl,?_⟩
                go_wp2_with fail
                refine leaves_cons (f:=70) (args:=#[.pointer (some ⟨h,0,none⟩)]) (by simp) (by simp [go_sem]) ?_
                refine (catchQ_panicking h 3 _ u1 (HL1.out.cell 0 _ rfl) (HL1.out.free 0)).mono ?_
                rintro e u' w9 ⟨rfl,rfl,r0,hb9⟩
                have hbl:=HB1.out.trans hb9
                rw [HHE.out] at hbl
                exact leaves_ret (v:=.slice none 0 0) (by simp [results,Tryz.results38,go_sem,r0]) ⟨none,0,0,rfl,by rw [HRP.out,HRT.out];exact World.ownsRow_nil _ _ _ _,hbl⟩
        · have hjn : n = (j : Int):=by omega
          have hc0:=HRj.out.c0
          have hc1:=HRj.out.c1
          have HTN : Hid (n.toNat = j):=qH (by omega)
          by_cases hps : (plAt t q0 j).1 = t.size
          · have hpe : (((plAt t q0 j).1 : Int) == (t.size : Int)) = true:=by rw [hps];exact beq_self_eq_true _
            have HRT : Hid (rdTx t = ddsTo t q0 j):=qH (by
             rw [rdTx_yes (by rw [HE.out];dsimp only;rw [<- HQ0.out,HTN.out];exact ⟨hn1,hn2,HOK.out,hps⟩),HE.out]
             dsimp only
             rw [<- HQ0.out,HTN.out])
            clear hps
            generalize (plAt t q0 j).1 = pj at *
            go_wp2_with fail
            go_still_tail 10,(by kernel_rfl)
            change wpList _ _ _ _ _ wr.drew
            have HLd:=qH HLj.out.drew
            have HOd:=qH (own_below HOj.out (Below.refl _ _).drew)
            have HBd:=qH HBj.out.drew
            clear HRj HLj HOj HBj hc0 hc1 hpe
            generalize wr.drew = u0 at *
            go_wp2_with fail
            refine (must_yes _).mono ?_
            rintro e u1 ⟨rfl,rfl⟩
            have z0:=HLd.out.cell 0 _ rfl
            have f0:=HLd.out.free 0
            have zlt:=HLd.out.lt
            go_wp2_with fail
            refine leaves_cons (f:=70) (args:=#[.pointer (some ⟨h,0,none⟩)]) (by simp) (by simp [go_sem]) ?_
            refine (catchQ_idle h _).mono ?_
            rintro e u' w9 ⟨rfl,rfl,rfl⟩
            refine leaves_ret (v:=.slice a j c) (by simp [results,Tryz.results38,go_sem,z0]) ?_
            refine ⟨a,j,c,rfl,?_,?_⟩
            · rw [HRP.out,HRT.out]
              exact own_mono (own_other HOd.out (b:=h) (fun g hg => by have:=(HOd.out.lt g hg).1;omega) _ _ rfl) (by rw [<- HHE.out] at *;omega)
            · have hbl:=HBd.out.setCell (p:=⟨h,0,none⟩) (Nat.le_refl _) (.slice a j c)
              rw [HHE.out] at hbl ⊢
              exact hbl
          · have hpe : (((plAt t q0 j).1 : Int) == (t.size : Int)) = false:=by rw [beq_eq_false_iff_ne];omega
            have HRT : Hid (rdTx t = []):=qH (rdTx_no (by rw [HE.out];dsimp only;rw [<- HQ0.out,HTN.out];rintro ⟨_,_,_,hk⟩;exact hps hk))
            clear hps
            generalize (plAt t q0 j).1 = pj at *
            go_wp2_with fail
            go_still_tail 10,(by kernel_rfl)
            change wpList _ _ _ _ _ wr.drew
            have HLd:=qH HLj.out.drew
            have HBd:=qH HBj.out.drew
            clear HRj HLj HOj HBj hc0 hc1 hpe
            generalize wr.drew = u0 at *
            go_wp2_with fail
            refine (must_no _).mono ?_
            rintro e u1 ⟨rfl,rfl⟩
            go_wp2_with fail
            refine leaves_cons (f:=70) (args:=#[.pointer (some ⟨h,0,none⟩)]) (by simp) (by simp [go_sem]) ?_
            refine (catchQ_panicking h 3 _ u0 (HLd.out.cell 0 _ rfl) (HLd.out.free 0)).mono ?_
            rintro e u' w9 ⟨rfl,rfl,r0,hb9⟩
            have hbl:=HBd.out.trans hb9
            rw [HHE.out] at hbl
            exact leaves_ret (v:=.slice none 0 0) (by simp [results,Tryz.results38,go_sem,r0]) ⟨none,0,0,rfl,by rw [HRP.out,HRT.out];exact World.ownsRow_nil _ _ _ _,hbl⟩
     · have HRT : Hid (rdTx t = []):=qH (rdTx_no (by rw [HE.out];dsimp only;rintro ⟨h1,h2,_⟩;exact hn ⟨h1,h2⟩))
       by_cases hn1 : 1 <= n
       · have hn2 : ¬ n <= 10:=fun h => hn ⟨hn1,h⟩
         clear hn
         go_wp2_with fail
         rw [show decide (n <= 10) = false from decide_eq_false (by omega)]
         refine (must_no _).mono ?_
         rintro e u1 ⟨rfl,rfl⟩
         go_wp2_with fail
         refine leaves_cons (f:=70) (args:=#[.pointer (some ⟨h,0,none⟩)]) (by simp) (by simp [go_sem]) ?_
         refine (catchQ_panicking h 3 _ w2 (HL2.out.cell 0 _ rfl) (HL2.out.free 0)).mono ?_
         rintro e u' w9 ⟨rfl,rfl,r0,hb9⟩
         have hbl:=HB2.out.trans hb9
         rw [HHE.out] at hbl
         exact leaves_ret (v:=.slice none 0 0) (by simp [results,Tryz.results38,go_sem,r0]) ⟨none,0,0,rfl,by rw [HRP.out,HRT.out];exact World.ownsRow_nil _ _ _ _,hbl⟩
       · clear hn
         go_wp2_with fail
         refine (must_no _).mono ?_
         rintro e u1 ⟨rfl,rfl⟩
         go_wp2_with fail
         refine leaves_cons (f:=70) (args:=#[.pointer (some ⟨h,0,none⟩)]) (by simp) (by simp [go_sem]) ?_
         refine (catchQ_panicking h 3 _ w2 (HL2.out.cell 0 _ rfl) (HL2.out.free 0)).mono ?_
         rintro e u' w9 ⟨rfl,rfl,r0,hb9⟩
         have hbl:=HB2.out.trans hb9
         rw [HHE.out] at hbl
         exact leaves_ret (v:=.slice none 0 0) (by simp [results,Tryz.results38,go_sem,r0]) ⟨none,0,0,rfl,by rw [HRP.out,HRT.out];exact World.ownsRow_nil _ _ _ _,hbl⟩
   · have HNO:=qH (sN_no (u:=t) (q:=(0,false)) hc)
     have HRT : Hid (rdTx t = []):=qH (rdTx_no (by rw [HNO.out];dsimp only;rintro ⟨h1,_⟩;exact absurd h1 (by decide)))
     refine (num_bad b t 0 _ HRV.out hf8 (Nat.zero_le _) hc).mono ?_
     rintro e w2 ⟨rfl,hb⟩
     have HL2:=qH (HLV.out.below hb)
     have HB2:=qH (HBV.out.trans (hb.mono (Nat.le_of_lt HLV.out.lt)))
     clear hb hc
     go_wp2_with fail
     refine leaves_cons (f:=70) (args:=#[.pointer (some ⟨h,0,none⟩)]) (by simp) (by simp [go_sem]) ?_
     refine (catchQ_panicking h 3 _ w2 (HL2.out.cell 0 _ rfl) (HL2.out.free 0)).mono ?_
     rintro e u' w9 ⟨rfl,rfl,r0,hb9⟩
     have hbl:=HB2.out.trans hb9
     rw [HHE.out] at hbl
     exact leaves_ret (v:=.slice none 0 0) (by simp [results,Tryz.results38,go_sem,r0]) ⟨none,0,0,rfl,by rw [HRP.out,HRT.out];exact World.ownsRow_nil _ _ _ _,hbl⟩
 · have HRP : Hid (rdPart s = []):=qH (by unfold rdPart;rw [if_neg hc])
   obtain ⟨c,hcc⟩ : ∃ c,c = (openS s).2.2:=⟨_,rfl⟩
   have HCC:=qH hcc
   clear hcc
   go_enter_defers Tryz.func38,Tryz.ntmps38
   go_wp2_with fail
   rw [<- hW,<- hh]
   clear hW hh
   refine (unsealed_bad s _ hs HG0.out hc).mono ?_
   rintro e w1 ⟨rfl,hb⟩
   have HL1:=qH (HL0.out.below hb)
   have HB1:=qH (HB0.out.trans (hb.mono (Nat.le_of_lt HL0.out.lt)))
   rw [<- HCC.out]
   clear hb hc
   go_wp2_with fail
   refine leaves_cons (f:=70) (args:=#[.pointer (some ⟨h,0,none⟩)]) (by simp) (by simp [go_sem]) ?_
   refine (catchQ_panicking h c _ w1 (HL1.out.cell 0 _ rfl) (HL1.out.free 0)).mono ?_
   rintro e u' w9 ⟨rfl,rfl,r0,hb9⟩
   have hbl:=HB1.out.trans hb9
   rw [HHE.out] at hbl
   exact leaves_ret (v:=.slice none 0 0) (by simp [results,Tryz.results38,go_sem,r0]) ⟨none,0,0,rfl,by rw [HRP.out];exact World.ownsRow_nil _ _ _ _,hbl⟩
end Go.Proofs.YtbgoldeopmlbnaaGreatDoor
