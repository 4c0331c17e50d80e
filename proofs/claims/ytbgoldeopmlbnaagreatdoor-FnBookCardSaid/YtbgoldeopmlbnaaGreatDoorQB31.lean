/- Used by the law. -/
import Derived.Test.YtbgoldeopmlbnaaGreatDoorQB28
set_option maxRecDepth 100000
set_option maxHeartbeats 16000000
namespace Go.Proofs.YtbgoldeopmlbnaaGreatDoor
open Go.RowKit Go.PlainAid G MGet MGF IRow MNum MJoin
set_option linter.unusedVariables false
structure SB (w : World) (b : Nat) (u : ByteArray) (p : Int) (k : Bool) : Prop where
 lt : b < w.heap.size
 c0 : w.cell? ⟨b,0,none⟩ = some (.string u)
 c1 : w.cell? ⟨b,1,none⟩ = some (.int .i64 p)
 c2 : w.cell? ⟨b,2,none⟩ = some (.bool k)
 f1 : w.frozen? ⟨b,1,none⟩ = false
 f2 : w.frozen? ⟨b,2,none⟩ = false
theorem SB.below {w w' : World} {b : Nat} {u : ByteArray} {p : Int} {k : Bool} (h : SB w b u p k) (hb : Below w.heap.size w w') : SB w' b u p k :=
 ⟨Nat.lt_of_lt_of_le h.lt hb.size,(hb.cell (p:=⟨b,0,none⟩) h.lt).trans h.c0,(hb.cell (p:=⟨b,1,none⟩) h.lt).trans h.c1,(hb.cell (p:=⟨b,2,none⟩) h.lt).trans h.c2,(hb.frozen (p:=⟨b,1,none⟩) h.lt).trans h.f1,(hb.frozen (p:=⟨b,2,none⟩) h.lt).trans h.f2⟩
theorem SB.move {w : World} {b : Nat} {u : ByteArray} {p : Int} {k : Bool} (h : SB w b u p k) (q : Int) : SB (w.setCell ⟨b,1,none⟩ (.int .i64 q)) b u q k :=
 ⟨by simpa using h.lt,(sco (by decide)).trans h.c0,World.cell?_setCell_same _ _ _ h.c1,(sco (by decide)).trans h.c2,by simpa using h.f1,by simpa using h.f2⟩
theorem SB.mark {w : World} {b : Nat} {u : ByteArray} {p : Int} {k : Bool} (h : SB w b u p k) : SB (w.setCell ⟨b,2,none⟩ (.bool true)) b u p true :=
 ⟨by simpa using h.lt,(sco (by decide)).trans h.c0,(sco (by decide)).trans h.c1,World.cell?_setCell_same _ _ _ h.c2,by simpa using h.f1,by simpa using h.f2⟩
theorem wf_i64_of {n : Int} (h : 0 <= n /\ n <= 1000000) : (Lit.int .i64 n).wf = true:=by
 simp only [Lit.wf,IntKind.min,IntKind.max,IntKind.signed,IntKind.bits]
 simp
 omega
theorem srcNum_any (b : Nat) (u : ByteArray) (q : Nat × Bool) (w : World) (hS : SB w b u (q.1 : Int) q.2) (hu : u.size <= 8000) (hq : q.1 <= u.size) :
 Calls Tryz.prog 78 #[.pointer (some ⟨b,0,none⟩)] w fun e w' => e = .returned (.int .i64 (sN u q).1) /\ SB w' b u ((sN u q).2.1 : Int) (sN u q).2.2 /\ w.grownBy w' (some b):=by
 have hgn : ∀ v : World,Calls Tryz.prog 75 #[.string u,.int .i64 (q.1 : Int)] v fun e w' => e = .returned (numOutV (rdS u q.1 10 0 0)) /\ Below v.heap.size v w':=fun v => by
  have hc:=specGetNum_any u (q.1 : Int) v (wf_i64_of (by omega)) (by unfold maxLen;omega)
  rw [getS_read (by omega)] at hc
  exact hc
 have HS0:=qH hS
 by_cases hc : (rdS u q.1 10 0 0).2.2 = 0
 · obtain ⟨hy,hf,hp⟩:=sN_yes hc
   rw [hy] at hgn
   rw [hf]
   obtain ⟨a,k⟩:=q
   dsimp only at *
   generalize (sN u (a,k)).1 = n at *
   generalize (sN u (a,k)).2.1 = p at *
   have HGN:=qH hgn
   unfold numOutV at HGN
   dsimp only at HGN
   obtain ⟨hlt,c0,c1,c2,f1,f2⟩:=hS
   have hltd : b < w.drew.heap.size:=hlt
   clear hc hy hf hgn
   go_enter Tryz.func78,Tryz.ntmps78
   go_wp2_with fail
   go_region_with (go_at_call 75;refine (HGN.out _).mono ?_;rintro e w1 ⟨rfl,hb1⟩;have HB1 : Hid (Below w.heap.size w w1):=qH (Below.trans (by repeat' (first | exact Below.refl _ _ | refine Below.drew ?_ | refine Below.alloc ?_ (by first | exact Nat.le_refl _ | (simp;done)) _)) (hb1.mono (by first | exact Nat.le_refl _ | (simp;done))));obtain ⟨hc1,hf1⟩:=bcell hb1;have hz1:=hb1.size;have hbw : b < w1.heap.size:=Nat.lt_of_lt_of_le hlt HB1.out.size;have g1:=(HB1.out.cell (p:=⟨b,1,none⟩) hlt).trans c1;have g2:=(HB1.out.cell (p:=⟨b,2,none⟩) hlt).trans c2;have g3:=(HB1.out.frozen (p:=⟨b,1,none⟩) hlt).trans f1;have g4:=(HB1.out.frozen (p:=⟨b,2,none⟩) hlt).trans f2)
   all_goals
    clear hb1
    go_wp2_with fail
    go_ret
    first
     | with_reducible exact ⟨rfl,(SB.move (HS0.out.below HB1.out) _).below ((Below.refl _ _).alloc (Nat.le_refl _) _),grown_trans (grown_trans (fg_below HB1.out) (grown_set _ b 1 _)) (fg_below ((Below.refl _ _).alloc (Nat.le_refl _) _))⟩
     | exact ⟨rfl,SB.move (HS0.out.below (by repeat' (first | exact HB1.out | refine Below.setCell ?_ (by first | exact Nat.le_refl _ | exact HB1.out.size | (simp;done) | (simp;omega)) _ | refine Below.alloc ?_ (by first | exact HB1.out.size | exact Nat.le_refl _ | (simp;done) | (simp;omega)) _))) _,grown_trans (fg_below (by repeat' (first | exact HB1.out | refine Below.setCell ?_ (by first | exact Nat.le_refl _ | exact HB1.out.size | (simp;done) | (simp;omega)) _ | refine Below.alloc ?_ (by first | exact HB1.out.size | exact Nat.le_refl _ | (simp;done) | (simp;omega)) _))) (grown_set _ b 1 _)⟩
 · have hy:=sN_no (u:=u) (q:=q) hc
   obtain ⟨c,hcc⟩ : ∃ c,c = (rdS u q.1 10 0 0).2.2:=⟨_,rfl⟩
   rw [rd_zero u q.1 10 0 0 hc,<- hcc] at hgn
   rw [hy]
   rw [<- hcc] at hc
   have hcb : (c != 0) = true:=by simp [hc]
   obtain ⟨a,k⟩:=q
   dsimp only at *
   have HGN:=qH hgn
   unfold numOutV at HGN
   dsimp only at HGN
   obtain ⟨hlt,c0,c1,c2,f1,f2⟩:=hS
   have hltd : b < w.drew.heap.size:=hlt
   clear hc hy hgn hcc
   go_enter Tryz.func78,Tryz.ntmps78
   go_wp2_with fail
   go_region_with (go_at_call 75;refine (HGN.out _).mono ?_;rintro e w1 ⟨rfl,hb1⟩;have HB1 : Hid (Below w.heap.size w w1):=qH (Below.trans (by repeat' (first | exact Below.refl _ _ | refine Below.drew ?_ | refine Below.alloc ?_ (by first | exact Nat.le_refl _ | (simp;done)) _)) (hb1.mono (by first | exact Nat.le_refl _ | (simp;done))));obtain ⟨hc1,hf1⟩:=bcell hb1;have hz1:=hb1.size;have hbw : b < w1.heap.size:=Nat.lt_of_lt_of_le hlt HB1.out.size;have g1:=(HB1.out.cell (p:=⟨b,1,none⟩) hlt).trans c1;have g2:=(HB1.out.cell (p:=⟨b,2,none⟩) hlt).trans c2;have g3:=(HB1.out.frozen (p:=⟨b,1,none⟩) hlt).trans f1;have g4:=(HB1.out.frozen (p:=⟨b,2,none⟩) hlt).trans f2)
   all_goals
    clear hb1
    go_wp2_with fail
    go_ret
    first
     | with_reducible exact ⟨rfl,(SB.mark (HS0.out.below HB1.out)).below ((Below.refl _ _).alloc (Nat.le_refl _) _),grown_trans (grown_trans (fg_below HB1.out) (grown_set _ b 2 _)) (fg_below ((Below.refl _ _).alloc (Nat.le_refl _) _))⟩
     | exact ⟨rfl,SB.mark (HS0.out.below (by repeat' (first | exact HB1.out | refine Below.setCell ?_ (by first | exact Nat.le_refl _ | exact HB1.out.size | (simp;done) | (simp;omega)) _ | refine Below.alloc ?_ (by first | exact HB1.out.size | exact Nat.le_refl _ | (simp;done) | (simp;omega)) _))),grown_trans (fg_below (by repeat' (first | exact HB1.out | refine Below.setCell ?_ (by first | exact Nat.le_refl _ | exact HB1.out.size | (simp;done) | (simp;omega)) _ | refine Below.alloc ?_ (by first | exact HB1.out.size | exact Nat.le_refl _ | (simp;done) | (simp;omega)) _))) (grown_set _ b 2 _)⟩
theorem srcStr_any (b : Nat) (u : ByteArray) (q : Nat × Bool) (w : World) (hS : SB w b u (q.1 : Int) q.2) (hu : u.size <= 8000) (hq : q.1 <= u.size) :
 Calls Tryz.prog 97 #[.pointer (some ⟨b,0,none⟩)] w fun e w' => e = .returned (.string (sT u q).1) /\ SB w' b u ((sT u q).2.1 : Int) (sT u q).2.2 /\ w.grownBy w' (some b):=by
 have hgn : ∀ v : World,Calls Tryz.prog 39 #[.string u,.int .i64 (q.1 : Int)] v fun e w' => e = .returned (textOutV (txtS u q.1)) /\ Below v.heap.size v w':=fun v => by
  have hc:=specGetText_any u (q.1 : Int) v (wf_i64_of (by omega)) (by unfold maxLen;omega)
  rw [getT_read (by omega)] at hc
  exact hc
 have HS0:=qH hS
 by_cases hc : (txtS u q.1).2.2 = 0
 · obtain ⟨hy,hf,hp⟩:=sT_yes hc
   rw [hy] at hgn
   rw [hf]
   obtain ⟨a,k⟩:=q
   dsimp only at *
   generalize (sT u (a,k)).1 = n at *
   generalize (sT u (a,k)).2.1 = p at *
   have HGN:=qH hgn
   unfold textOutV at HGN
   dsimp only at HGN
   obtain ⟨hlt,c0,c1,c2,f1,f2⟩:=hS
   have hltd : b < w.drew.heap.size:=hlt
   clear hc hy hf hgn
   go_enter Tryz.func97,Tryz.ntmps97
   go_wp2_with fail
   go_region_with (go_at_call 39;refine (HGN.out _).mono ?_;rintro e w1 ⟨rfl,hb1⟩;have HB1 : Hid (Below w.heap.size w w1):=qH (Below.trans (by repeat' (first | exact Below.refl _ _ | refine Below.drew ?_ | refine Below.alloc ?_ (by first | exact Nat.le_refl _ | (simp;done)) _)) (hb1.mono (by first | exact Nat.le_refl _ | (simp;done))));obtain ⟨hc1,hf1⟩:=bcell hb1;have hz1:=hb1.size;have hbw : b < w1.heap.size:=Nat.lt_of_lt_of_le hlt HB1.out.size;have g1:=(HB1.out.cell (p:=⟨b,1,none⟩) hlt).trans c1;have g2:=(HB1.out.cell (p:=⟨b,2,none⟩) hlt).trans c2;have g3:=(HB1.out.frozen (p:=⟨b,1,none⟩) hlt).trans f1;have g4:=(HB1.out.frozen (p:=⟨b,2,none⟩) hlt).trans f2)
   all_goals
    clear hb1
    go_wp2_with fail
    go_ret
    first
     | with_reducible exact ⟨rfl,(SB.move (HS0.out.below HB1.out) _).below ((Below.refl _ _).alloc (Nat.le_refl _) _),grown_trans (grown_trans (fg_below HB1.out) (grown_set _ b 1 _)) (fg_below ((Below.refl _ _).alloc (Nat.le_refl _) _))⟩
     | exact ⟨rfl,SB.move (HS0.out.below (by repeat' (first | exact HB1.out | refine Below.setCell ?_ (by first | exact Nat.le_refl _ | exact HB1.out.size | (simp;done) | (simp;omega)) _ | refine Below.alloc ?_ (by first | exact HB1.out.size | exact Nat.le_refl _ | (simp;done) | (simp;omega)) _))) _,grown_trans (fg_below (by repeat' (first | exact HB1.out | refine Below.setCell ?_ (by first | exact Nat.le_refl _ | exact HB1.out.size | (simp;done) | (simp;omega)) _ | refine Below.alloc ?_ (by first | exact HB1.out.size | exact Nat.le_refl _ | (simp;done) | (simp;omega)) _))) (grown_set _ b 1 _)⟩
 · have hy:=sT_no (u:=u) (q:=q) hc
   obtain ⟨c,hcc⟩ : ∃ c,c = (txtS u q.1).2.2:=⟨_,rfl⟩
   rw [txt_zero u q.1 hc,<- hcc] at hgn
   rw [hy]
   rw [<- hcc] at hc
   have hcb : (c != 0) = true:=by simp [hc]
   obtain ⟨a,k⟩:=q
   dsimp only at *
   have HGN:=qH hgn
   unfold textOutV at HGN
   dsimp only at HGN
   obtain ⟨hlt,c0,c1,c2,f1,f2⟩:=hS
   have hltd : b < w.drew.heap.size:=hlt
   clear hc hy hgn hcc
   go_enter Tryz.func97,Tryz.ntmps97
   go_wp2_with fail
   go_region_with (go_at_call 39;refine (HGN.out _).mono ?_;rintro e w1 ⟨rfl,hb1⟩;have HB1 : Hid (Below w.heap.size w w1):=qH (Below.trans (by repeat' (first | exact Below.refl _ _ | refine Below.drew ?_ | refine Below.alloc ?_ (by first | exact Nat.le_refl _ | (simp;done)) _)) (hb1.mono (by first | exact Nat.le_refl _ | (simp;done))));obtain ⟨hc1,hf1⟩:=bcell hb1;have hz1:=hb1.size;have hbw : b < w1.heap.size:=Nat.lt_of_lt_of_le hlt HB1.out.size;have g1:=(HB1.out.cell (p:=⟨b,1,none⟩) hlt).trans c1;have g2:=(HB1.out.cell (p:=⟨b,2,none⟩) hlt).trans c2;have g3:=(HB1.out.frozen (p:=⟨b,1,none⟩) hlt).trans f1;have g4:=(HB1.out.frozen (p:=⟨b,2,none⟩) hlt).trans f2)
   all_goals
    clear hb1
    go_wp2_with fail
    go_ret
    first
     | with_reducible exact ⟨rfl,(SB.mark (HS0.out.below HB1.out)).below ((Below.refl _ _).alloc (Nat.le_refl _) _),grown_trans (grown_trans (fg_below HB1.out) (grown_set _ b 2 _)) (fg_below ((Below.refl _ _).alloc (Nat.le_refl _) _))⟩
     | exact ⟨rfl,SB.mark (HS0.out.below (by repeat' (first | exact HB1.out | refine Below.setCell ?_ (by first | exact Nat.le_refl _ | exact HB1.out.size | (simp;done) | (simp;omega)) _ | refine Below.alloc ?_ (by first | exact HB1.out.size | exact Nat.le_refl _ | (simp;done) | (simp;omega)) _))),grown_trans (fg_below (by repeat' (first | exact HB1.out | refine Below.setCell ?_ (by first | exact Nat.le_refl _ | exact HB1.out.size | (simp;done) | (simp;omega)) _ | refine Below.alloc ?_ (by first | exact HB1.out.size | exact Nat.le_refl _ | (simp;done) | (simp;omega)) _))) (grown_set _ b 2 _)⟩
theorem SB.other {w : World} {b : Nat} {u : ByteArray} {p : Int} {z : Bool} (k : SB w b u p z) (h i : Nat) (v : Value) (hne : h ≠ b) : SB (w.setCell ⟨h,i,none⟩ v) b u p z :=
 ⟨by simpa using k.lt,(World.cell?_setCell_other _ ⟨h,i,none⟩ ⟨b,0,none⟩ _ (by intro e;injection e with e;exact hne e)).trans k.c0,(World.cell?_setCell_other _ ⟨h,i,none⟩ ⟨b,1,none⟩ _ (by intro e;injection e with e;exact hne e)).trans k.c1,(World.cell?_setCell_other _ ⟨h,i,none⟩ ⟨b,2,none⟩ _ (by intro e;injection e with e;exact hne e)).trans k.c2,by simpa using k.f1,by simpa using k.f2⟩
theorem srcDeed_any (b : Nat) (u : ByteArray) (q : Plc) (w : World) (hR : SB w b u (q.1 : Int) q.2) (hu : u.size <= 8000) (ha : q.1 <= u.size) :
 Calls Tryz.prog 80 #[.pointer (some ⟨b,0,none⟩)] w fun e w' => e = .returned (ddV (rdDeed u q).1) /\ SB w' b u ((rdDeed u q).2.1 : Int) (rdDeed u q).2.2 /\ w.grownBy w' (some b):=by
 obtain ⟨W,hW⟩ : ∃ W,W = w.alloc (.cells #[.int .i64 0,.int .i64 0,.int .i64 0,.int .i64 0,.int .i64 0,.int .i64 0,.string ⟨#[]⟩,.string ⟨#[]⟩,.int .i64 0,.string ⟨#[]⟩] 34):=⟨_,rfl⟩
 obtain ⟨h,hh⟩ : ∃ h,h = w.heap.size:=⟨_,rfl⟩
 have HY0:=qH (show BoxC W h [.int .i64 0,.int .i64 0,.int .i64 0,.int .i64 0,.int .i64 0,.int .i64 0,.string ⟨#[]⟩,.string ⟨#[]⟩,.int .i64 0,.string ⟨#[]⟩] by rw [hW,hh];exact BoxC.made _ _ _)
 have hb0 : Below w.heap.size w W:=by rw [hW];exact (Below.refl _ _).alloc (Nat.le_refl _) _
 have HR0:=qH (hR.below hb0)
 have HG0:=qH (show w.grownBy W (some b) from fg_below hb0)
 have hbh : b < h:=by rw [hh];exact hR.lt
 have hne : h ≠ b:=by omega
 have HHW:=qH (show w.heap.size <= h by omega)
 clear hR hb0
 go_enter Tryz.func80,Tryz.ntmps80
 go_wp2_with fail
 rw [<- hW,<- hh]
 clear hW hh
 obtain ⟨k,q1,he⟩ : ∃ k q1,sN u q = (k,q1):=⟨_,_,rfl⟩
 have HE:=qH he
 have hq1 : q1.1 <= u.size:=by have:=sN_le (u:=u) (q:=q) ha;rw [he] at this;exact this
 clear he
 refine (srcNum_any b u q _ HR0.out hu ha).mono ?_
 rintro e w1 ⟨rfl,hr,hg⟩
 rw [HE.out] at hr ⊢
 dsimp only at hr ⊢
 obtain ⟨V,hV⟩ : ∃ V,V = w1.alloc (.cells #[.int .i64 k,.int .i64 0,.int .i64 0,.int .i64 0,.int .i64 0,.int .i64 0,.string ⟨#[]⟩,.string ⟨#[]⟩,.int .i64 0,.string ⟨#[]⟩] 34):=⟨_,rfl⟩
 obtain ⟨x,hx⟩ : ∃ x,x = w1.heap.size:=⟨_,rfl⟩
 have hb1 : Below w1.heap.size w1 V:=by rw [hV];exact (Below.refl _ _).alloc (Nat.le_refl _) _
 have HR1:=qH (hr.below hb1)
 have HY1:=qH ((HY0.out.kept hg hne).below hb1)
 have HG1:=qH (grown_trans HG0.out (grown_trans hg (fg_below hb1)))
 have HX1:=qH (show BoxC V x [.int .i64 k,.int .i64 0,.int .i64 0,.int .i64 0,.int .i64 0,.int .i64 0,.string ⟨#[]⟩,.string ⟨#[]⟩,.int .i64 0,.string ⟨#[]⟩] by rw [hV,hx];exact BoxC.made _ _ _)
 have hxh : h < x:=by rw [hx];exact (HY0.out.kept hg hne).lt
 have hxb : x ≠ b:=by omega
 clear hr hg hb1 HY0 HR0 HG0
 by_cases hk1 : k = 1
 · skip
   subst hk1
   have HRC : Hid (∀ q,rcRest u 1 q = rcConf u 1 q):=qH (fun q => by unfold rcRest;simp)
   go_wp2_with fail
   rw [<- hV,<- hx]
   clear hV hx
   obtain ⟨n2,q2,he2⟩ : ∃ n2 q2,sN u q1 = (n2,q2):=⟨_,_,rfl⟩
   have HE2:=qH he2
   have hq2 : q2.1 <= u.size:=by have:=sN_le (u:=u) (q:=q1) hq1;rw [he2] at this;exact this
   clear he2
   refine (srcNum_any b u q1 _ HR1.out hu hq1).mono ?_
   rintro e w2 ⟨rfl,hr,hg⟩
   rw [HE2.out] at hr ⊢
   dsimp only at hr ⊢
   have HR2:=qH hr
   have HY2:=qH (HY1.out.kept hg hne)
   have HX2:=qH (HX1.out.kept hg hxb)
   have HG2:=qH (grown_trans HG1.out hg)
   clear hr hg HY1 HX1
   go_wp2_with fail
   obtain ⟨n3,q3,he3⟩ : ∃ n3 q3,sN u q2 = (n3,q3):=⟨_,_,rfl⟩
   have HE3:=qH he3
   have hq3 : q3.1 <= u.size:=by have:=sN_le (u:=u) (q:=q2) hq2;rw [he3] at this;exact this
   clear he3
   refine (srcNum_any b u q2 _ HR2.out hu hq2).mono ?_
   rintro e w3 ⟨rfl,hr,hg⟩
   rw [HE3.out] at hr ⊢
   dsimp only at hr ⊢
   have HR3:=qH hr
   have HY3:=qH (HY2.out.kept hg hne)
   have HX3:=qH (HX2.out.kept hg hxb)
   have HG3:=qH (grown_trans HG2.out hg)
   clear hr hg HY2 HX2
   go_wp2_with fail
   obtain ⟨n4,q4,he4⟩ : ∃ n4 q4,sN u q3 = (n4,q4):=⟨_,_,rfl⟩
   have HE4:=qH he4
   have hq4 : q4.1 <= u.size:=by have:=sN_le (u:=u) (q:=q3) hq3;rw [he4] at this;exact this
   clear he4
   refine (srcNum_any b u q3 _ HR3.out hu hq3).mono ?_
   rintro e w4 ⟨rfl,hr,hg⟩
   rw [HE4.out] at hr ⊢
   dsimp only at hr ⊢
   have HR4:=qH hr
   have HY4:=qH (HY3.out.kept hg hne)
   have HX4:=qH (HX3.out.kept hg hxb)
   have HG4:=qH (grown_trans HG3.out hg)
   clear hr hg HY3 HX3
   go_wp2_with fail
   obtain ⟨n5,q5,he5⟩ : ∃ n5 q5,sN u q4 = (n5,q5):=⟨_,_,rfl⟩
   have HE5:=qH he5
   have hq5 : q5.1 <= u.size:=by have:=sN_le (u:=u) (q:=q4) hq4;rw [he5] at this;exact this
   clear he5
   refine (srcNum_any b u q4 _ HR4.out hu hq4).mono ?_
   rintro e w5 ⟨rfl,hr,hg⟩
   rw [HE5.out] at hr ⊢
   dsimp only at hr ⊢
   have HR5:=qH hr
   have HY5:=qH (HY4.out.kept hg hne)
   have HX5:=qH (HX4.out.kept hg hxb)
   have HG5:=qH (grown_trans HG4.out hg)
   clear hr hg HY4 HX4
   have x0:=HX5.out.cell 0 _ rfl
   have fx0:=HX5.out.free 0
   have x1:=HX5.out.cell 1 _ rfl
   have fx1:=HX5.out.free 1
   have x2:=HX5.out.cell 2 _ rfl
   have fx2:=HX5.out.free 2
   have x3:=HX5.out.cell 3 _ rfl
   have fx3:=HX5.out.free 3
   have x4:=HX5.out.cell 4 _ rfl
   have fx4:=HX5.out.free 4
   have x5:=HX5.out.cell 5 _ rfl
   have fx5:=HX5.out.free 5
   have x6:=HX5.out.cell 6 _ rfl
   have fx6:=HX5.out.free 6
   have x7:=HX5.out.cell 7 _ rfl
   have fx7:=HX5.out.free 7
   have x8:=HX5.out.cell 8 _ rfl
   have fx8:=HX5.out.free 8
   have x9:=HX5.out.cell 9 _ rfl
   have fx9:=HX5.out.free 9
   obtain ⟨X,hX⟩ : ∃ X,X = (((w5.setCell ⟨x,1,none⟩ (.int .i64 n2)).setCell ⟨x,2,none⟩ (.int .i64 n3)).setCell ⟨x,3,none⟩ (.int .i64 n4)).setCell ⟨x,4,none⟩ (.int .i64 n5):=⟨_,rfl⟩
   have HXX:=qH (show BoxC X x [.int .i64 1,.int .i64 n2,.int .i64 n3,.int .i64 n4,.int .i64 n5,.int .i64 0,.string ⟨#[]⟩,.string ⟨#[]⟩,.int .i64 0,.string ⟨#[]⟩] by rw [hX];exact ((((HX5.out.set (j:=1) (by simp) (.int .i64 n2)).set (j:=2) (by simp) (.int .i64 n3)).set (j:=3) (by simp) (.int .i64 n4)).set (j:=4) (by simp) (.int .i64 n5)))
   have HRX:=qH (show SB X b u (q5.1 : Int) q5.2 by rw [hX];exact ((((HR5.out.other x 1 (.int .i64 n2) hxb).other x 2 (.int .i64 n3) hxb).other x 3 (.int .i64 n4) hxb).other x 4 (.int .i64 n5) hxb))
   have HYX:=qH (show BoxC X h [.int .i64 0,.int .i64 0,.int .i64 0,.int .i64 0,.int .i64 0,.int .i64 0,.string ⟨#[]⟩,.string ⟨#[]⟩,.int .i64 0,.string ⟨#[]⟩] by rw [hX];exact ((((HY5.out.other ⟨x,1,none⟩ (.int .i64 n2) (by show x ≠ h;omega)).other ⟨x,2,none⟩ (.int .i64 n3) (by show x ≠ h;omega)).other ⟨x,3,none⟩ (.int .i64 n4) (by show x ≠ h;omega)).other ⟨x,4,none⟩ (.int .i64 n5) (by show x ≠ h;omega)))
   have HGX:=qH (show w.grownBy X (some b) by rw [hX];exact grown_own (grown_own (grown_own (grown_own (HG5.out) (grown_set _ x 1 _) (fun g hg => by cases hg;have:=HHW.out;omega)) (grown_set _ x 2 _) (fun g hg => by cases hg;have:=HHW.out;omega)) (grown_set _ x 3 _) (fun g hg => by cases hg;have:=HHW.out;omega)) (grown_set _ x 4 _) (fun g hg => by cases hg;have:=HHW.out;omega))
   have hlx:=HX5.out.lt
   clear HR5 HX5 HY5
   go_upto_region 11 with fail
   rw [<- hX]
   clear hX x0 fx0 x1 fx1 x2 fx2 x3 fx3 x4 fx4 x5 fx5 x6 fx6 x7 fx7 x8 fx8 x9 fx9 hlx
   have HEQ : Hid (rdDeed u q = (⟨1,n2,n3,n4,n5,0,⟨#[]⟩,⟨#[]⟩,0,⟨#[]⟩⟩,q5)):=qH (by simp only [rdDeed,HRC.out,rcConf,HE.out,HE2.out,HE3.out,HE4.out,HE5.out])
   have x0:=HXX.out.cell 0 _ rfl
   have x1:=HXX.out.cell 1 _ rfl
   have x2:=HXX.out.cell 2 _ rfl
   have x3:=HXX.out.cell 3 _ rfl
   have x4:=HXX.out.cell 4 _ rfl
   have x5:=HXX.out.cell 5 _ rfl
   have x6:=HXX.out.cell 6 _ rfl
   have x7:=HXX.out.cell 7 _ rfl
   have x8:=HXX.out.cell 8 _ rfl
   have x9:=HXX.out.cell 9 _ rfl
   have y0:=HYX.out.cell 0 _ rfl
   have fy0:=HYX.out.free 0
   have y1:=HYX.out.cell 1 _ rfl
   have fy1:=HYX.out.free 1
   have y2:=HYX.out.cell 2 _ rfl
   have fy2:=HYX.out.free 2
   have y3:=HYX.out.cell 3 _ rfl
   have fy3:=HYX.out.free 3
   have y4:=HYX.out.cell 4 _ rfl
   have fy4:=HYX.out.free 4
   have y5:=HYX.out.cell 5 _ rfl
   have fy5:=HYX.out.free 5
   have y6:=HYX.out.cell 6 _ rfl
   have fy6:=HYX.out.free 6
   have y7:=HYX.out.cell 7 _ rfl
   have fy7:=HYX.out.free 7
   have y8:=HYX.out.cell 8 _ rfl
   have fy8:=HYX.out.free 8
   have y9:=HYX.out.cell 9 _ rfl
   have fy9:=HYX.out.free 9
   have hly:=HYX.out.lt
   go_wp2_with fail
   exact bodyPost_ret (v:=.agg #[.int .i64 1,.int .i64 n2,.int .i64 n3,.int .i64 n4,.int .i64 n5,.int .i64 0,.string ⟨#[]⟩,.string ⟨#[]⟩,.int .i64 0,.string ⟨#[]⟩]) (by simp [results,Tryz.results80,go_sem,y0,y1,y2,y3,y4,y5,y6,y7,y8,y9]) rfl ⟨by rw [HEQ.out];rfl,by rw [HEQ.out];exact ((((((((((HRX.out.other h 0 (.int .i64 1) hne).other h 1 (.int .i64 n2) hne).other h 2 (.int .i64 n3) hne).other h 3 (.int .i64 n4) hne).other h 4 (.int .i64 n5) hne).other h 5 (.int .i64 0) hne).other h 6 (.string ⟨#[]⟩) hne).other h 7 (.string ⟨#[]⟩) hne).other h 8 (.int .i64 0) hne).other h 9 (.string ⟨#[]⟩) hne),grown_own (grown_own (grown_own (grown_own (grown_own (grown_own (grown_own (grown_own (grown_own (grown_own (HGX.out) (grown_set _ h 0 (.int .i64 1)) (fun g hg => by cases hg;exact HHW.out)) (grown_set _ h 1 (.int .i64 n2)) (fun g hg => by cases hg;exact HHW.out)) (grown_set _ h 2 (.int .i64 n3)) (fun g hg => by cases hg;exact HHW.out)) (grown_set _ h 3 (.int .i64 n4)) (fun g hg => by cases hg;exact HHW.out)) (grown_set _ h 4 (.int .i64 n5)) (fun g hg => by cases hg;exact HHW.out)) (grown_set _ h 5 (.int .i64 0)) (fun g hg => by cases hg;exact HHW.out)) (grown_set _ h 6 (.string ⟨#[]⟩)) (fun g hg => by cases hg;exact HHW.out)) (grown_set _ h 7 (.string ⟨#[]⟩)) (fun g hg => by cases hg;exact HHW.out)) (grown_set _ h 8 (.int .i64 0)) (fun g hg => by cases hg;exact HHW.out)) (grown_set _ h 9 (.string ⟨#[]⟩)) (fun g hg => by cases hg;exact HHW.out)⟩
 · skip
   by_cases hk2 : k = 2
   · skip
     subst hk2
     have HRC : Hid (∀ q,rcRest u 2 q = rcTerm u 2 q):=qH (fun q => by unfold rcRest;simp)
     go_wp2_with fail
     rw [<- hV,<- hx]
     clear hV hx
     obtain ⟨n2,q2,he2⟩ : ∃ n2 q2,sN u q1 = (n2,q2):=⟨_,_,rfl⟩
     have HE2:=qH he2
     have hq2 : q2.1 <= u.size:=by have:=sN_le (u:=u) (q:=q1) hq1;rw [he2] at this;exact this
     clear he2
     refine (srcNum_any b u q1 _ HR1.out hu hq1).mono ?_
     rintro e w2 ⟨rfl,hr,hg⟩
     rw [HE2.out] at hr ⊢
     dsimp only at hr ⊢
     have HR2:=qH hr
     have HY2:=qH (HY1.out.kept hg hne)
     have HX2:=qH (HX1.out.kept hg hxb)
     have HG2:=qH (grown_trans HG1.out hg)
     clear hr hg HY1 HX1
     go_wp2_with fail
     obtain ⟨t3,q3,he3⟩ : ∃ t3 q3,sT u q2 = (t3,q3):=⟨_,_,rfl⟩
     have HE3:=qH he3
     have hq3 : q3.1 <= u.size:=by have:=sT_le (u:=u) (q:=q2) hq2;rw [he3] at this;exact this
     clear he3
     refine (srcStr_any b u q2 _ HR2.out hu hq2).mono ?_
     rintro e w3 ⟨rfl,hr,hg⟩
     rw [HE3.out] at hr ⊢
     dsimp only at hr ⊢
     have HR3:=qH hr
     have HY3:=qH (HY2.out.kept hg hne)
     have HX3:=qH (HX2.out.kept hg hxb)
     have HG3:=qH (grown_trans HG2.out hg)
     clear hr hg HY2 HX2
     have x0:=HX3.out.cell 0 _ rfl
     have fx0:=HX3.out.free 0
     have x1:=HX3.out.cell 1 _ rfl
     have fx1:=HX3.out.free 1
     have x2:=HX3.out.cell 2 _ rfl
     have fx2:=HX3.out.free 2
     have x3:=HX3.out.cell 3 _ rfl
     have fx3:=HX3.out.free 3
     have x4:=HX3.out.cell 4 _ rfl
     have fx4:=HX3.out.free 4
     have x5:=HX3.out.cell 5 _ rfl
     have fx5:=HX3.out.free 5
     have x6:=HX3.out.cell 6 _ rfl
     have fx6:=HX3.out.free 6
     have x7:=HX3.out.cell 7 _ rfl
     have fx7:=HX3.out.free 7
     have x8:=HX3.out.cell 8 _ rfl
     have fx8:=HX3.out.free 8
     have x9:=HX3.out.cell 9 _ rfl
     have fx9:=HX3.out.free 9
     obtain ⟨X,hX⟩ : ∃ X,X = (w3.setCell ⟨x,5,none⟩ (.int .i64 n2)).setCell ⟨x,6,none⟩ (.string t3):=⟨_,rfl⟩
     have HXX:=qH (show BoxC X x [.int .i64 2,.int .i64 0,.int .i64 0,.int .i64 0,.int .i64 0,.int .i64 n2,.string t3,.string ⟨#[]⟩,.int .i64 0,.string ⟨#[]⟩] by rw [hX];exact ((HX3.out.set (j:=5) (by simp) (.int .i64 n2)).set (j:=6) (by simp) (.string t3)))
     have HRX:=qH (show SB X b u (q3.1 : Int) q3.2 by rw [hX];exact ((HR3.out.other x 5 (.int .i64 n2) hxb).other x 6 (.string t3) hxb))
     have HYX:=qH (show BoxC X h [.int .i64 0,.int .i64 0,.int .i64 0,.int .i64 0,.int .i64 0,.int .i64 0,.string ⟨#[]⟩,.string ⟨#[]⟩,.int .i64 0,.string ⟨#[]⟩] by rw [hX];exact ((HY3.out.other ⟨x,5,none⟩ (.int .i64 n2) (by show x ≠ h;omega)).other ⟨x,6,none⟩ (.string t3) (by show x ≠ h;omega)))
     have HGX:=qH (show w.grownBy X (some b) by rw [hX];exact grown_own (grown_own (HG3.out) (grown_set _ x 5 _) (fun g hg => by cases hg;have:=HHW.out;omega)) (grown_set _ x 6 _) (fun g hg => by cases hg;have:=HHW.out;omega))
     have hlx:=HX3.out.lt
     clear HR3 HX3 HY3
     go_upto_region 11 with fail
     rw [<- hX]
     clear hX x0 fx0 x1 fx1 x2 fx2 x3 fx3 x4 fx4 x5 fx5 x6 fx6 x7 fx7 x8 fx8 x9 fx9 hlx
     have HEQ : Hid (rdDeed u q = (⟨2,0,0,0,0,n2,t3,⟨#[]⟩,0,⟨#[]⟩⟩,q3)):=qH (by simp only [rdDeed,HRC.out,rcTerm,HE.out,HE2.out,HE3.out])
     have x0:=HXX.out.cell 0 _ rfl
     have x1:=HXX.out.cell 1 _ rfl
     have x2:=HXX.out.cell 2 _ rfl
     have x3:=HXX.out.cell 3 _ rfl
     have x4:=HXX.out.cell 4 _ rfl
     have x5:=HXX.out.cell 5 _ rfl
     have x6:=HXX.out.cell 6 _ rfl
     have x7:=HXX.out.cell 7 _ rfl
     have x8:=HXX.out.cell 8 _ rfl
     have x9:=HXX.out.cell 9 _ rfl
     have y0:=HYX.out.cell 0 _ rfl
     have fy0:=HYX.out.free 0
     have y1:=HYX.out.cell 1 _ rfl
     have fy1:=HYX.out.free 1
     have y2:=HYX.out.cell 2 _ rfl
     have fy2:=HYX.out.free 2
     have y3:=HYX.out.cell 3 _ rfl
     have fy3:=HYX.out.free 3
     have y4:=HYX.out.cell 4 _ rfl
     have fy4:=HYX.out.free 4
     have y5:=HYX.out.cell 5 _ rfl
     have fy5:=HYX.out.free 5
     have y6:=HYX.out.cell 6 _ rfl
     have fy6:=HYX.out.free 6
     have y7:=HYX.out.cell 7 _ rfl
     have fy7:=HYX.out.free 7
     have y8:=HYX.out.cell 8 _ rfl
     have fy8:=HYX.out.free 8
     have y9:=HYX.out.cell 9 _ rfl
     have fy9:=HYX.out.free 9
     have hly:=HYX.out.lt
     go_wp2_with fail
     exact bodyPost_ret (v:=.agg #[.int .i64 2,.int .i64 0,.int .i64 0,.int .i64 0,.int .i64 0,.int .i64 n2,.string t3,.string ⟨#[]⟩,.int .i64 0,.string ⟨#[]⟩]) (by simp [results,Tryz.results80,go_sem,y0,y1,y2,y3,y4,y5,y6,y7,y8,y9]) rfl ⟨by rw [HEQ.out];rfl,by rw [HEQ.out];exact ((((((((((HRX.out.other h 0 (.int .i64 2) hne).other h 1 (.int .i64 0) hne).other h 2 (.int .i64 0) hne).other h 3 (.int .i64 0) hne).other h 4 (.int .i64 0) hne).other h 5 (.int .i64 n2) hne).other h 6 (.string t3) hne).other h 7 (.string ⟨#[]⟩) hne).other h 8 (.int .i64 0) hne).other h 9 (.string ⟨#[]⟩) hne),grown_own (grown_own (grown_own (grown_own (grown_own (grown_own (grown_own (grown_own (grown_own (grown_own (HGX.out) (grown_set _ h 0 (.int .i64 2)) (fun g hg => by cases hg;exact HHW.out)) (grown_set _ h 1 (.int .i64 0)) (fun g hg => by cases hg;exact HHW.out)) (grown_set _ h 2 (.int .i64 0)) (fun g hg => by cases hg;exact HHW.out)) (grown_set _ h 3 (.int .i64 0)) (fun g hg => by cases hg;exact HHW.out)) (grown_set _ h 4 (.int .i64 0)) (fun g hg => by cases hg;exact HHW.out)) (grown_set _ h 5 (.int .i64 n2)) (fun g hg => by cases hg;exact HHW.out)) (grown_set _ h 6 (.string t3)) (fun g hg => by cases hg;exact HHW.out)) (grown_set _ h 7 (.string ⟨#[]⟩)) (fun g hg => by cases hg;exact HHW.out)) (grown_set _ h 8 (.int .i64 0)) (fun g hg => by cases hg;exact HHW.out)) (grown_set _ h 9 (.string ⟨#[]⟩)) (fun g hg => by cases hg;exact HHW.out)⟩
   · skip
     by_cases hk3 : k = 3
     · skip
       subst hk3
       have HRC : Hid (∀ q,rcRest u 3 q = rcPut u 3 q):=qH (fun q => by unfold rcRest;simp)
       go_wp2_with fail
       rw [<- hV,<- hx]
       clear hV hx
       obtain ⟨t2,q2,he2⟩ : ∃ t2 q2,sT u q1 = (t2,q2):=⟨_,_,rfl⟩
       have HE2:=qH he2
       have hq2 : q2.1 <= u.size:=by have:=sT_le (u:=u) (q:=q1) hq1;rw [he2] at this;exact this
       clear he2
       refine (srcStr_any b u q1 _ HR1.out hu hq1).mono ?_
       rintro e w2 ⟨rfl,hr,hg⟩
       rw [HE2.out] at hr ⊢
       dsimp only at hr ⊢
       have HR2:=qH hr
       have HY2:=qH (HY1.out.kept hg hne)
       have HX2:=qH (HX1.out.kept hg hxb)
       have HG2:=qH (grown_trans HG1.out hg)
       clear hr hg HY1 HX1
       go_wp2_with fail
       obtain ⟨n3,q3,he3⟩ : ∃ n3 q3,sN u q2 = (n3,q3):=⟨_,_,rfl⟩
       have HE3:=qH he3
       have hq3 : q3.1 <= u.size:=by have:=sN_le (u:=u) (q:=q2) hq2;rw [he3] at this;exact this
       clear he3
       refine (srcNum_any b u q2 _ HR2.out hu hq2).mono ?_
       rintro e w3 ⟨rfl,hr,hg⟩
       rw [HE3.out] at hr ⊢
       dsimp only at hr ⊢
       have HR3:=qH hr
       have HY3:=qH (HY2.out.kept hg hne)
       have HX3:=qH (HX2.out.kept hg hxb)
       have HG3:=qH (grown_trans HG2.out hg)
       clear hr hg HY2 HX2
       go_wp2_with fail
       obtain ⟨t4,q4,he4⟩ : ∃ t4 q4,sT u q3 = (t4,q4):=⟨_,_,rfl⟩
       have HE4:=qH he4
       have hq4 : q4.1 <= u.size:=by have:=sT_le (u:=u) (q:=q3) hq3;rw [he4] at this;exact this
       clear he4
       refine (srcStr_any b u q3 _ HR3.out hu hq3).mono ?_
       rintro e w4 ⟨rfl,hr,hg⟩
       rw [HE4.out] at hr ⊢
       dsimp only at hr ⊢
       have HR4:=qH hr
       have HY4:=qH (HY3.out.kept hg hne)
       have HX4:=qH (HX3.out.kept hg hxb)
       have HG4:=qH (grown_trans HG3.out hg)
       clear hr hg HY3 HX3
       have x0:=HX4.out.cell 0 _ rfl
       have fx0:=HX4.out.free 0
       have x1:=HX4.out.cell 1 _ rfl
       have fx1:=HX4.out.free 1
       have x2:=HX4.out.cell 2 _ rfl
       have fx2:=HX4.out.free 2
       have x3:=HX4.out.cell 3 _ rfl
       have fx3:=HX4.out.free 3
       have x4:=HX4.out.cell 4 _ rfl
       have fx4:=HX4.out.free 4
       have x5:=HX4.out.cell 5 _ rfl
       have fx5:=HX4.out.free 5
       have x6:=HX4.out.cell 6 _ rfl
       have fx6:=HX4.out.free 6
       have x7:=HX4.out.cell 7 _ rfl
       have fx7:=HX4.out.free 7
       have x8:=HX4.out.cell 8 _ rfl
       have fx8:=HX4.out.free 8
       have x9:=HX4.out.cell 9 _ rfl
       have fx9:=HX4.out.free 9
       obtain ⟨X,hX⟩ : ∃ X,X = ((w4.setCell ⟨x,7,none⟩ (.string t2)).setCell ⟨x,8,none⟩ (.int .i64 n3)).setCell ⟨x,9,none⟩ (.string t4):=⟨_,rfl⟩
       have HXX:=qH (show BoxC X x [.int .i64 3,.int .i64 0,.int .i64 0,.int .i64 0,.int .i64 0,.int .i64 0,.string ⟨#[]⟩,.string t2,.int .i64 n3,.string t4] by rw [hX];exact (((HX4.out.set (j:=7) (by simp) (.string t2)).set (j:=8) (by simp) (.int .i64 n3)).set (j:=9) (by simp) (.string t4)))
       have HRX:=qH (show SB X b u (q4.1 : Int) q4.2 by rw [hX];exact (((HR4.out.other x 7 (.string t2) hxb).other x 8 (.int .i64 n3) hxb).other x 9 (.string t4) hxb))
       have HYX:=qH (show BoxC X h [.int .i64 0,.int .i64 0,.int .i64 0,.int .i64 0,.int .i64 0,.int .i64 0,.string ⟨#[]⟩,.string ⟨#[]⟩,.int .i64 0,.string ⟨#[]⟩] by rw [hX];exact (((HY4.out.other ⟨x,7,none⟩ (.string t2) (by show x ≠ h;omega)).other ⟨x,8,none⟩ (.int .i64 n3) (by show x ≠ h;omega)).other ⟨x,9,none⟩ (.string t4) (by show x ≠ h;omega)))
       have HGX:=qH (show w.grownBy X (some b) by rw [hX];exact grown_own (grown_own (grown_own (HG4.out) (grown_set _ x 7 _) (fun g hg => by cases hg;have:=HHW.out;omega)) (grown_set _ x 8 _) (fun g hg => by cases hg;have:=HHW.out;omega)) (grown_set _ x 9 _) (fun g hg => by cases hg;have:=HHW.out;omega))
       have hlx:=HX4.out.lt
       clear HR4 HX4 HY4
       go_upto_region 11 with fail
       rw [<- hX]
       clear hX x0 fx0 x1 fx1 x2 fx2 x3 fx3 x4 fx4 x5 fx5 x6 fx6 x7 fx7 x8 fx8 x9 fx9 hlx
       have HEQ : Hid (rdDeed u q = (⟨3,0,0,0,0,0,⟨#[]⟩,t2,n3,t4⟩,q4)):=qH (by simp only [rdDeed,HRC.out,rcPut,HE.out,HE2.out,HE3.out,HE4.out])
       have x0:=HXX.out.cell 0 _ rfl
       have x1:=HXX.out.cell 1 _ rfl
       have x2:=HXX.out.cell 2 _ rfl
       have x3:=HXX.out.cell 3 _ rfl
       have x4:=HXX.out.cell 4 _ rfl
       have x5:=HXX.out.cell 5 _ rfl
       have x6:=HXX.out.cell 6 _ rfl
       have x7:=HXX.out.cell 7 _ rfl
       have x8:=HXX.out.cell 8 _ rfl
       have x9:=HXX.out.cell 9 _ rfl
       have y0:=HYX.out.cell 0 _ rfl
       have fy0:=HYX.out.free 0
       have y1:=HYX.out.cell 1 _ rfl
       have fy1:=HYX.out.free 1
       have y2:=HYX.out.cell 2 _ rfl
       have fy2:=HYX.out.free 2
       have y3:=HYX.out.cell 3 _ rfl
       have fy3:=HYX.out.free 3
       have y4:=HYX.out.cell 4 _ rfl
       have fy4:=HYX.out.free 4
       have y5:=HYX.out.cell 5 _ rfl
       have fy5:=HYX.out.free 5
       have y6:=HYX.out.cell 6 _ rfl
       have fy6:=HYX.out.free 6
       have y7:=HYX.out.cell 7 _ rfl
       have fy7:=HYX.out.free 7
       have y8:=HYX.out.cell 8 _ rfl
       have fy8:=HYX.out.free 8
       have y9:=HYX.out.cell 9 _ rfl
       have fy9:=HYX.out.free 9
       have hly:=HYX.out.lt
       go_wp2_with fail
       exact bodyPost_ret (v:=.agg #[.int .i64 3,.int .i64 0,.int .i64 0,.int .i64 0,.int .i64 0,.int .i64 0,.string ⟨#[]⟩,.string t2,.int .i64 n3,.string t4]) (by simp [results,Tryz.results80,go_sem,y0,y1,y2,y3,y4,y5,y6,y7,y8,y9]) rfl ⟨by rw [HEQ.out];rfl,by rw [HEQ.out];exact ((((((((((HRX.out.other h 0 (.int .i64 3) hne).other h 1 (.int .i64 0) hne).other h 2 (.int .i64 0) hne).other h 3 (.int .i64 0) hne).other h 4 (.int .i64 0) hne).other h 5 (.int .i64 0) hne).other h 6 (.string ⟨#[]⟩) hne).other h 7 (.string t2) hne).other h 8 (.int .i64 n3) hne).other h 9 (.string t4) hne),grown_own (grown_own (grown_own (grown_own (grown_own (grown_own (grown_own (grown_own (grown_own (grown_own (HGX.out) (grown_set _ h 0 (.int .i64 3)) (fun g hg => by cases hg;exact HHW.out)) (grown_set _ h 1 (.int .i64 0)) (fun g hg => by cases hg;exact HHW.out)) (grown_set _ h 2 (.int .i64 0)) (fun g hg => by cases hg;exact HHW.out)) (grown_set _ h 3 (.int .i64 0)) (fun g hg => by cases hg;exact HHW.out)) (grown_set _ h 4 (.int .i64 0)) (fun g hg => by cases hg;exact HHW.out)) (grown_set _ h 5 (.int .i64 0)) (fun g hg => by cases hg;exact HHW.out)) (grown_set _ h 6 (.string ⟨#[]⟩)) (fun g hg => by cases hg;exact HHW.out)) (grown_set _ h 7 (.string t2)) (fun g hg => by cases hg;exact HHW.out)) (grown_set _ h 8 (.int .i64 n3)) (fun g hg => by cases hg;exact HHW.out)) (grown_set _ h 9 (.string t4)) (fun g hg => by cases hg;exact HHW.out)⟩
     · skip
       by_cases hk4 : k = 4
       · skip
         subst hk4
         have HRC : Hid (∀ q,rcRest u 4 q = rcDel u 4 q):=qH (fun q => by unfold rcRest;simp)
         go_wp2_with fail
         rw [<- hV,<- hx]
         clear hV hx
         obtain ⟨t2,q2,he2⟩ : ∃ t2 q2,sT u q1 = (t2,q2):=⟨_,_,rfl⟩
         have HE2:=qH he2
         have hq2 : q2.1 <= u.size:=by have:=sT_le (u:=u) (q:=q1) hq1;rw [he2] at this;exact this
         clear he2
         refine (srcStr_any b u q1 _ HR1.out hu hq1).mono ?_
         rintro e w2 ⟨rfl,hr,hg⟩
         rw [HE2.out] at hr ⊢
         dsimp only at hr ⊢
         have HR2:=qH hr
         have HY2:=qH (HY1.out.kept hg hne)
         have HX2:=qH (HX1.out.kept hg hxb)
         have HG2:=qH (grown_trans HG1.out hg)
         clear hr hg HY1 HX1
         have x0:=HX2.out.cell 0 _ rfl
         have fx0:=HX2.out.free 0
         have x1:=HX2.out.cell 1 _ rfl
         have fx1:=HX2.out.free 1
         have x2:=HX2.out.cell 2 _ rfl
         have fx2:=HX2.out.free 2
         have x3:=HX2.out.cell 3 _ rfl
         have fx3:=HX2.out.free 3
         have x4:=HX2.out.cell 4 _ rfl
         have fx4:=HX2.out.free 4
         have x5:=HX2.out.cell 5 _ rfl
         have fx5:=HX2.out.free 5
         have x6:=HX2.out.cell 6 _ rfl
         have fx6:=HX2.out.free 6
         have x7:=HX2.out.cell 7 _ rfl
         have fx7:=HX2.out.free 7
         have x8:=HX2.out.cell 8 _ rfl
         have fx8:=HX2.out.free 8
         have x9:=HX2.out.cell 9 _ rfl
         have fx9:=HX2.out.free 9
         obtain ⟨X,hX⟩ : ∃ X,X = ((w2.setCell ⟨x,7,none⟩ (.string t2)).setCell ⟨x,8,none⟩ (.int .i64 0)).setCell ⟨x,9,none⟩ (.string ⟨#[]⟩):=⟨_,rfl⟩
         have HXX:=qH (show BoxC X x [.int .i64 4,.int .i64 0,.int .i64 0,.int .i64 0,.int .i64 0,.int .i64 0,.string ⟨#[]⟩,.string t2,.int .i64 0,.string ⟨#[]⟩] by rw [hX];exact (((HX2.out.set (j:=7) (by simp) (.string t2)).set (j:=8) (by simp) (.int .i64 0)).set (j:=9) (by simp) (.string ⟨#[]⟩)))
         have HRX:=qH (show SB X b u (q2.1 : Int) q2.2 by rw [hX];exact (((HR2.out.other x 7 (.string t2) hxb).other x 8 (.int .i64 0) hxb).other x 9 (.string ⟨#[]⟩) hxb))
         have HYX:=qH (show BoxC X h [.int .i64 0,.int .i64 0,.int .i64 0,.int .i64 0,.int .i64 0,.int .i64 0,.string ⟨#[]⟩,.string ⟨#[]⟩,.int .i64 0,.string ⟨#[]⟩] by rw [hX];exact (((HY2.out.other ⟨x,7,none⟩ (.string t2) (by show x ≠ h;omega)).other ⟨x,8,none⟩ (.int .i64 0) (by show x ≠ h;omega)).other ⟨x,9,none⟩ (.string ⟨#[]⟩) (by show x ≠ h;omega)))
         have HGX:=qH (show w.grownBy X (some b) by rw [hX];exact grown_own (grown_own (grown_own (HG2.out) (grown_set _ x 7 _) (fun g hg => by cases hg;have:=HHW.out;omega)) (grown_set _ x 8 _) (fun g hg => by cases hg;have:=HHW.out;omega)) (grown_set _ x 9 _) (fun g hg => by cases hg;have:=HHW.out;omega))
         have hlx:=HX2.out.lt
         clear HR2 HX2 HY2
         go_upto_region 11 with fail
         rw [<- hX]
         clear hX x0 fx0 x1 fx1 x2 fx2 x3 fx3 x4 fx4 x5 fx5 x6 fx6 x7 fx7 x8 fx8 x9 fx9 hlx
         have HEQ : Hid (rdDeed u q = (⟨4,0,0,0,0,0,⟨#[]⟩,t2,0,⟨#[]⟩⟩,q2)):=qH (by simp only [rdDeed,HRC.out,rcDel,HE.out,HE2.out])
         have x0:=HXX.out.cell 0 _ rfl
         have x1:=HXX.out.cell 1 _ rfl
         have x2:=HXX.out.cell 2 _ rfl
         have x3:=HXX.out.cell 3 _ rfl
         have x4:=HXX.out.cell 4 _ rfl
         have x5:=HXX.out.cell 5 _ rfl
         have x6:=HXX.out.cell 6 _ rfl
         have x7:=HXX.out.cell 7 _ rfl
         have x8:=HXX.out.cell 8 _ rfl
         have x9:=HXX.out.cell 9 _ rfl
         have y0:=HYX.out.cell 0 _ rfl
         have fy0:=HYX.out.free 0
         have y1:=HYX.out.cell 1 _ rfl
         have fy1:=HYX.out.free 1
         have y2:=HYX.out.cell 2 _ rfl
         have fy2:=HYX.out.free 2
         have y3:=HYX.out.cell 3 _ rfl
         have fy3:=HYX.out.free 3
         have y4:=HYX.out.cell 4 _ rfl
         have fy4:=HYX.out.free 4
         have y5:=HYX.out.cell 5 _ rfl
         have fy5:=HYX.out.free 5
         have y6:=HYX.out.cell 6 _ rfl
         have fy6:=HYX.out.free 6
         have y7:=HYX.out.cell 7 _ rfl
         have fy7:=HYX.out.free 7
         have y8:=HYX.out.cell 8 _ rfl
         have fy8:=HYX.out.free 8
         have y9:=HYX.out.cell 9 _ rfl
         have fy9:=HYX.out.free 9
         have hly:=HYX.out.lt
         go_wp2_with fail
         exact bodyPost_ret (v:=.agg #[.int .i64 4,.int .i64 0,.int .i64 0,.int .i64 0,.int .i64 0,.int .i64 0,.string ⟨#[]⟩,.string t2,.int .i64 0,.string ⟨#[]⟩]) (by simp [results,Tryz.results80,go_sem,y0,y1,y2,y3,y4,y5,y6,y7,y8,y9]) rfl ⟨by rw [HEQ.out];rfl,by rw [HEQ.out];exact ((((((((((HRX.out.other h 0 (.int .i64 4) hne).other h 1 (.int .i64 0) hne).other h 2 (.int .i64 0) hne).other h 3 (.int .i64 0) hne).other h 4 (.int .i64 0) hne).other h 5 (.int .i64 0) hne).other h 6 (.string ⟨#[]⟩) hne).other h 7 (.string t2) hne).other h 8 (.int .i64 0) hne).other h 9 (.string ⟨#[]⟩) hne),grown_own (grown_own (grown_own (grown_own (grown_own (grown_own (grown_own (grown_own (grown_own (grown_own (HGX.out) (grown_set _ h 0 (.int .i64 4)) (fun g hg => by cases hg;exact HHW.out)) (grown_set _ h 1 (.int .i64 0)) (fun g hg => by cases hg;exact HHW.out)) (grown_set _ h 2 (.int .i64 0)) (fun g hg => by cases hg;exact HHW.out)) (grown_set _ h 3 (.int .i64 0)) (fun g hg => by cases hg;exact HHW.out)) (grown_set _ h 4 (.int .i64 0)) (fun g hg => by cases hg;exact HHW.out)) (grown_set _ h 5 (.int .i64 0)) (fun g hg => by cases hg;exact HHW.out)) (grown_set _ h 6 (.string ⟨#[]⟩)) (fun g hg => by cases hg;exact HHW.out)) (grown_set _ h 7 (.string t2)) (fun g hg => by cases hg;exact HHW.out)) (grown_set _ h 8 (.int .i64 0)) (fun g hg => by cases hg;exact HHW.out)) (grown_set _ h 9 (.string ⟨#[]⟩)) (fun g hg => by cases hg;exact HHW.out)⟩
       · skip
         have ka : (k == 1) = false:=by simp [hk1]
         have kb : (k == 2) = false:=by simp [hk2]
         have kc : (k == 3) = false:=by simp [hk3]
         have kd : (k == 4) = false:=by simp [hk4]
         have HRC : Hid (∀ q,rcRest u k q = rcNone k q):=qH (fun q => by unfold rcRest;simp [hk1,hk2,hk3,hk4])
         go_upto_region 11 with fail
         rw [<- hV,<- hx]
         clear hV hx
         have HXX:=HX1
         have HRX:=HR1
         have HYX:=HY1
         have HGX:=HG1
         have HEQ : Hid (rdDeed u q = (⟨k,0,0,0,0,0,⟨#[]⟩,⟨#[]⟩,0,⟨#[]⟩⟩,q1)):=qH (by simp only [rdDeed,HRC.out,rcNone,HE.out])
         have x0:=HXX.out.cell 0 _ rfl
         have x1:=HXX.out.cell 1 _ rfl
         have x2:=HXX.out.cell 2 _ rfl
         have x3:=HXX.out.cell 3 _ rfl
         have x4:=HXX.out.cell 4 _ rfl
         have x5:=HXX.out.cell 5 _ rfl
         have x6:=HXX.out.cell 6 _ rfl
         have x7:=HXX.out.cell 7 _ rfl
         have x8:=HXX.out.cell 8 _ rfl
         have x9:=HXX.out.cell 9 _ rfl
         have y0:=HYX.out.cell 0 _ rfl
         have fy0:=HYX.out.free 0
         have y1:=HYX.out.cell 1 _ rfl
         have fy1:=HYX.out.free 1
         have y2:=HYX.out.cell 2 _ rfl
         have fy2:=HYX.out.free 2
         have y3:=HYX.out.cell 3 _ rfl
         have fy3:=HYX.out.free 3
         have y4:=HYX.out.cell 4 _ rfl
         have fy4:=HYX.out.free 4
         have y5:=HYX.out.cell 5 _ rfl
         have fy5:=HYX.out.free 5
         have y6:=HYX.out.cell 6 _ rfl
         have fy6:=HYX.out.free 6
         have y7:=HYX.out.cell 7 _ rfl
         have fy7:=HYX.out.free 7
         have y8:=HYX.out.cell 8 _ rfl
         have fy8:=HYX.out.free 8
         have y9:=HYX.out.cell 9 _ rfl
         have fy9:=HYX.out.free 9
         have hly:=HYX.out.lt
         go_wp2_with fail
         exact bodyPost_ret (v:=.agg #[.int .i64 k,.int .i64 0,.int .i64 0,.int .i64 0,.int .i64 0,.int .i64 0,.string ⟨#[]⟩,.string ⟨#[]⟩,.int .i64 0,.string ⟨#[]⟩]) (by simp [results,Tryz.results80,go_sem,y0,y1,y2,y3,y4,y5,y6,y7,y8,y9]) rfl ⟨by rw [HEQ.out];rfl,by rw [HEQ.out];exact ((((((((((HRX.out.other h 0 (.int .i64 k) hne).other h 1 (.int .i64 0) hne).other h 2 (.int .i64 0) hne).other h 3 (.int .i64 0) hne).other h 4 (.int .i64 0) hne).other h 5 (.int .i64 0) hne).other h 6 (.string ⟨#[]⟩) hne).other h 7 (.string ⟨#[]⟩) hne).other h 8 (.int .i64 0) hne).other h 9 (.string ⟨#[]⟩) hne),grown_own (grown_own (grown_own (grown_own (grown_own (grown_own (grown_own (grown_own (grown_own (grown_own (HGX.out) (grown_set _ h 0 (.int .i64 k)) (fun g hg => by cases hg;exact HHW.out)) (grown_set _ h 1 (.int .i64 0)) (fun g hg => by cases hg;exact HHW.out)) (grown_set _ h 2 (.int .i64 0)) (fun g hg => by cases hg;exact HHW.out)) (grown_set _ h 3 (.int .i64 0)) (fun g hg => by cases hg;exact HHW.out)) (grown_set _ h 4 (.int .i64 0)) (fun g hg => by cases hg;exact HHW.out)) (grown_set _ h 5 (.int .i64 0)) (fun g hg => by cases hg;exact HHW.out)) (grown_set _ h 6 (.string ⟨#[]⟩)) (fun g hg => by cases hg;exact HHW.out)) (grown_set _ h 7 (.string ⟨#[]⟩)) (fun g hg => by cases hg;exact HHW.out)) (grown_set _ h 8 (.int .i64 0)) (fun g hg => by cases hg;exact HHW.out)) (grown_set _ h 9 (.string ⟨#[]⟩)) (fun g hg => by cases hg;exact HHW.out)⟩
theorem sT_fits {u : ByteArray} {q : Plc} (hu : u.size <= 8000) : (sT u q).1.size <= maxLen:=by
 unfold sT
 split
 · exact Nat.le_trans (txt_fits (u:=u) (a:=q.1) hu) (by unfold maxLen;omega)
 · exact Nat.zero_le _
theorem rdDeed_fits {u : ByteArray} {q : Plc} (hu : u.size <= 8000) : (rdDeed u q).1.lk.size <= maxLen /\ (rdDeed u q).1.nm.size <= maxLen /\ (rdDeed u q).1.bd.size <= maxLen:=by
 have h0 : (⟨#[]⟩ : ByteArray).size <= maxLen:=Nat.zero_le _
 unfold rdDeed rcRest rcConf rcTerm rcPut rcDel rcNone
 repeat' split
 all_goals exact ⟨by first | exact h0 | exact sT_fits hu,by first | exact h0 | exact sT_fits hu,by first | exact h0 | exact sT_fits hu⟩
theorem SB.grown {w w' : World} {b : Nat} {u : ByteArray} {p : Int} {k : Bool} {row : Option Nat} (h : SB w b u p k) (hg : w.grownBy w' row) (hr : some b ≠ row) : SB w' b u p k:=by
 have h1:=hg.block b h.lt hr
 exact ⟨Nat.lt_of_lt_of_le h.lt hg.size,(World.cell?_of_block (a:=⟨b,0,none⟩) h1).trans h.c0,(World.cell?_of_block (a:=⟨b,1,none⟩) h1).trans h.c1,(World.cell?_of_block (a:=⟨b,2,none⟩) h1).trans h.c2,(World.frozen?_of_block (a:=⟨b,1,none⟩) h1).trans h.f1,(World.frozen?_of_block (a:=⟨b,2,none⟩) h1).trans h.f2⟩
def TxOr (u : ByteArray) (w : World) (e : Ending) (w' : World) : Prop :=
 ∃ a n c,e = .returned (.tuple #[.slice a n c,.bool (decide (rdTx u ≠ []))]) /\ (rdTx u ≠ [] -> w'.ownsRow w.heap.size 34 ddE.k (.slice a n c) n (ddE.flat (rdTx u))) /\ Below w.heap.size w w'
theorem specTx_any (u : ByteArray) (w : World) (hu : u.size <= 8000) :
 Calls Tryz.prog 41 #[.string u] w (TxOr u w):=by
 obtain ⟨W,hW⟩ : ∃ W,W = w.alloc (.cells #[.string u,.int .i64 0,.bool false] 118):=⟨_,rfl⟩
 obtain ⟨b,hb0⟩ : ∃ b,b = w.heap.size:=⟨_,rfl⟩
 have HR0:=qH (show SB W b u (((0 : Nat) : Int)) false by rw [hW,hb0];exact ⟨by simp,by simp,by simp,by simp,by simp,by simp⟩)
 have HB0 : Hid (Below w.heap.size w W):=qH (by rw [hW];exact (Below.refl _ _).alloc (Nat.le_refl _) _)
 have hbb : w.heap.size <= b:=by omega
 have HWS:=qH (show w.heap.size <= W.heap.size from HB0.out.size)
 go_enter Tryz.func41,Tryz.ntmps41
 go_wp2_with fail
 rw [<- hW,<- hb0]
 clear hW hb0
 obtain ⟨n,q1,he⟩ : ∃ n q1,sN u ((0,false) : Plc) = (n,q1):=⟨_,_,rfl⟩
 have HE:=qH he
 have hq1 : q1.1 <= u.size:=by have:=sN_le (u:=u) (q:=(0,false)) (Nat.zero_le _);rw [he] at this;exact this
 clear he
 refine (srcNum_any b u (0,false) _ HR0.out hu (Nat.zero_le _)).mono ?_
 rintro e w1 ⟨rfl,hr,hg⟩
 rw [HE.out] at hr ⊢
 dsimp only at hr ⊢
 have HR1:=qH hr
 have HB1:=qH (below_kept HB0.out hg HWS.out hbb)
 clear hr hg HR0 HB0 HWS
 go_wp2_with fail
 refine (l02IsOk_any _ _ _ _).mono ?_
 rintro e w2 ⟨rfl,rfl⟩
 by_cases hn : 1 <= n /\ n <= 10
 · rw [decide_eq_true hn]
   obtain ⟨hn1,hn2⟩:=hn
   have hq1m : q1.2 = false:=by
    by_cases hc : (rdS u 0 10 0 0).2.2 = 0
    · obtain ⟨n',p',he',_,_⟩:=sN_step hc
      have:=HE.out.symm.trans he'
      injection this with _ h2
      rw [h2]
    · have:=HE.out.symm.trans (sN_no (u:=u) (q:=(0,false)) hc)
      injection this with h2 _
      omega
   obtain ⟨V,hV⟩ : ∃ V,V = w1.alloc (.cells #[] 34):=⟨_,rfl⟩
   obtain ⟨B,hB⟩ : ∃ B,B = w1.heap.size:=⟨_,rfl⟩
   have hbV : Below w1.heap.size w1 V:=by rw [hV];exact (Below.refl _ _).alloc (Nat.le_refl _) _
   have HO1:=qH (show V.ownsRow B 34 ddE.k (.slice (some ⟨B,0,none⟩) 0 0) 0 (ddE.flat []) by rw [hV,hB];exact own_made0 ddE w1 34 (Nat.le_refl _))
   have hbB : b < B:=by rw [hB];exact HR1.out.lt
   have HRV:=qH (HR1.out.below hbV)
   have HBV:=qH (HB1.out.trans (hbV.mono HB1.out.size))
   have hBV : B <= V.heap.size:=by rw [hB];exact hbV.size
   have HRm:=qH (show SB V b u (q1.1 : Int) false by rw [<- hq1m];exact HRV.out)
   clear hbV HR1 HB1 HRV
   obtain ⟨ti,hi,hz,hsy,hy⟩:=info_parts infoDeed
   go_wp2_with fail
   rw [<- hV,<- hB]
   clear hV hB
   go_loopw [6,7] (fun v i wr => ∃ (j : Nat) (a : Option Addr) (c : Nat),v = .slice a j c /\ i = .int .i64 j /\ (j : Int) <= n /\ Hid (okTo u q1 j = true) /\ Hid (SB wr b u ((plAt u q1 j).1 : Int) false) /\ Hid ((plAt u q1 j).2 = false) /\ Hid ((plAt u q1 j).1 <= u.size) /\ Hid (wr.ownsRow B 34 ddE.k (.slice a j c) j (ddE.flat (ddsTo u q1 j))) /\ Hid (Below w.heap.size w wr) /\ B <= wr.heap.size) (fun _ i _ => n.toNat - (intOf i).toNat)
   case atStart => exact ⟨0,some ⟨B,0,none⟩,0,rfl,rfl,by omega,rfl,HRm.out,hq1m,hq1,HO1.out,HBV.out,hBV⟩
   case round =>
    obtain ⟨j,a,c,rfl,rfl,hj,HOK,HRj,HPF,HPL,HOj,HBj,hsz⟩:=hrel
    clear HRm HO1 HBV
    by_cases hlt : (j : Int) < n
    · obtain ⟨pj,hpj⟩ : ∃ pj,plAt u q1 j = (pj,false):=⟨_,Prod.ext rfl HPF.out⟩
      have HPJ:=qH hpj
      rw [hpj] at HRj HPL
      dsimp only at HRj HPL
      clear hpj HPF
      go_wp2_with fail
      refine (srcDeed_any b u (pj,false) _ HRj.out hu HPL.out).mono ?_
      rintro e w3 ⟨rfl,hr,hg⟩
      have HFT:=qH (rdDeed_fits (u:=u) (q:=(pj,false)) hu)
      have HLE:=qH (rdDeed_le (u:=u) (q:=(pj,false)) HPL.out)
      obtain ⟨D,r1,m,hrd⟩ : ∃ D r1 m,rdDeed u (pj,false) = (D,(r1,m)):=⟨_,_,_,rfl⟩
      rw [hrd] at hr HFT HLE ⊢
      dsimp only at hr HFT HLE ⊢
      have HRD:=qH hrd
      unfold ddV
      obtain ⟨X,hX⟩ : ∃ X,X = w3.alloc (.cells #[.int .i64 D.kd,.int .i64 D.gn,.int .i64 D.nd,.int .i64 D.mn,.int .i64 D.ck,.int .i64 D.no,.string D.lk,.string D.nm,.int .i64 D.tm,.string D.bd] 34):=⟨_,rfl⟩
      obtain ⟨x,hx⟩ : ∃ x,x = w3.heap.size:=⟨_,rfl⟩
      have hbX : Below w3.heap.size w3 X:=by rw [hX];exact (Below.refl _ _).alloc (Nat.le_refl _) _
      have HXX:=qH (show BoxC X x [.int .i64 D.kd,.int .i64 D.gn,.int .i64 D.nd,.int .i64 D.mn,.int .i64 D.ck,.int .i64 D.no,.string D.lk,.string D.nm,.int .i64 D.tm,.string D.bd] by rw [hX,hx];exact BoxC.made _ _ _)
      have HRX:=qH (hr.below hbX)
      have HO3:=HOj.out.kept hg (Or.inr (fun e => by have:=(HOj.out.lt b e).1;omega))
      have HOX:=qH (own_below HO3 hbX)
      have HB3:=below_kept HBj.out hg HBj.out.size hbb
      have HBX:=qH (HB3.trans (hbX.mono HB3.size))
      have hszX : B <= X.heap.size:=Nat.le_trans (Nat.le_trans hsz hg.size) hbX.size
      clear hr hg hrd hbX HO3 HB3 HRj HOj HBj hsz
      have g0:=HRX.out.c0
      have g1:=HRX.out.c1
      have g2:=HRX.out.c2
      have x0:=HXX.out.cell 0 _ rfl
      have x1:=HXX.out.cell 1 _ rfl
      have x2:=HXX.out.cell 2 _ rfl
      have x3:=HXX.out.cell 3 _ rfl
      have x4:=HXX.out.cell 4 _ rfl
      have x5:=HXX.out.cell 5 _ rfl
      have x6:=HXX.out.cell 6 _ rfl
      have x7:=HXX.out.cell 7 _ rfl
      have x8:=HXX.out.cell 8 _ rfl
      have x9:=HXX.out.cell 9 _ rfl
      go_upto_region 10 with fail
      rw [<- hX,<- hx]
      clear hX hx
      cases m
      · go_wp2_with fail
        refine (specDeedRight_any D.kd D.gn D.nd D.mn D.ck D.no D.lk D.nm D.tm D.bd _ HFT.out.1 HFT.out.2.1 HFT.out.2.2).mono ?_
        rintro e w4 ⟨rfl,hb⟩
        have HX4:=qH (HXX.out.below hb)
        have HR4:=qH (HRX.out.below hb)
        have HO4:=qH (own_below HOX.out hb)
        have HB4:=qH (HBX.out.trans (hb.mono HBX.out.size))
        have hsz4 : B <= w4.heap.size:=Nat.le_trans hszX hb.size
        clear hb HXX HRX HOX HBX hszX g0 g1 g2 x0 x1 x2 x3 x4 x5 x6 x7 x8 x9
        obtain ⟨ob,hob⟩ : ∃ ob,deedB D.kd D.gn D.nd D.mn D.ck D.no D.lk D.nm D.tm D.bd = ob:=⟨_,rfl⟩
        have HOB:=qH (show okDeed u (pj,false) = ob by unfold okDeed;rw [HRD.out];exact hob)
        rw [hob]
        clear hob
        cases ob
        · have HRT : Hid (rdTx u = []):=qH (rdTx_no (by rw [HE.out];dsimp only;rintro ⟨_,_,hk,_⟩;rw [okTo_no (n:=n.toNat) (i:=j) (by rw [HPJ.out];exact HOB.out) (by omega)] at hk;cases hk))
          go_wp2_with fail
          go_ret2
          exact ⟨none,0,0,by rw [HRT.out];rfl,fun h => absurd HRT.out h,HB4.out⟩
        · skip
          have HAB : Hid (Below w4.heap.size w4 (w4.alloc (.cells #[.int .i64 D.kd,.int .i64 D.gn,.int .i64 D.nd,.int .i64 D.mn,.int .i64 D.ck,.int .i64 D.no,.string D.lk,.string D.nm,.int .i64 D.tm,.string D.bd] 34))):=qH ((Below.refl _ _).alloc (Nat.le_refl _) _)
          have HXL : Hid (SR ddE ddD (w4.alloc (.cells #[.int .i64 D.kd,.int .i64 D.gn,.int .i64 D.nd,.int .i64 D.mn,.int .i64 D.ck,.int .i64 D.no,.string D.lk,.string D.nm,.int .i64 D.tm,.string D.bd] 34)) (some ⟨w4.heap.size,0,none⟩) 1 1 [D]):=qH (SR.own (by decide) (World.ownsRow_lit w4 #[.int .i64 D.kd,.int .i64 D.gn,.int .i64 D.nd,.int .i64 D.mn,.int .i64 D.ck,.int .i64 D.no,.string D.lk,.string D.nm,.int .i64 D.tm,.string D.bd] 1 (Nat.le_refl _) (by decide) rfl))
          have HR5:=qH (HR4.out.below HAB.out)
          have HO5:=qH (own_below HO4.out HAB.out)
          have HB5:=qH (HB4.out.trans (HAB.out.mono HB4.out.size))
          have hsz5 : B <= (w4.alloc (.cells #[.int .i64 D.kd,.int .i64 D.gn,.int .i64 D.nd,.int .i64 D.mn,.int .i64 D.ck,.int .i64 D.no,.string D.lk,.string D.nm,.int .i64 D.tm,.string D.bd] 34)).heap.size:=Nat.le_trans hsz4 HAB.out.size
          have hj1 : j <= 1048576:=by omega
          have hk0 : 0 < ddE.k:=by decide
          have h24 : (104 : Nat) <= 1024:=by decide
          have hm1 : 1 <= 1048576:=by decide
          have HNB : Hid (∀ q,(Value.slice a j c).ownBlock = some q -> B <= q):=qH (fun q hq => (HO4.out.lt q hq).1)
          have x0:=HX4.out.cell 0 _ rfl
          have x1:=HX4.out.cell 1 _ rfl
          have x2:=HX4.out.cell 2 _ rfl
          have x3:=HX4.out.cell 3 _ rfl
          have x4:=HX4.out.cell 4 _ rfl
          have x5:=HX4.out.cell 5 _ rfl
          have x6:=HX4.out.cell 6 _ rfl
          have x7:=HX4.out.cell 7 _ rfl
          have x8:=HX4.out.cell 8 _ rfl
          have x9:=HX4.out.cell 9 _ rfl
          clear HR4 HO4 HB4
          go_wp2_with (at_builtin;refine append_wl ddE ddD rfl _ _ 37 rfl 34 ti _ 104 Tryz.underlying37 hi hz hsy hy rfl hk0 h24 B _ j (ddsTo u q1 j) rfl HO5.out _ 1 1 [D] rfl HXL.out hsz5 hj1 hm1 ?_;intro v3 u3 O3 G3;have HO6:=qH O3;have HR6:=qH (HR5.out.grown G3 (fun e => by have:=HNB.out _ e.symm;omega));have HB6:=qH (HB5.out.grown G3 HB5.out.size (fun q hq => by have:=HNB.out q hq;omega));have hsz6 : B <= u3.heap.size:=Nat.le_trans hsz5 G3.size;obtain ⟨a5,c5,rfl⟩:=own_shape O3;clear O3 G3)
          refine ⟨⟨j + 1,a5,c5,rfl,by go_num,by omega,by unfold Hid;rw [okTo_succ,HOK.out,HPJ.out,HOB.out];rfl,?_,?_,?_,?_,HB6.out,hsz6⟩,by simp [intOf];omega⟩
          · unfold Hid
            show SB _ b u (((rdDeed u (plAt u q1 j)).2.1 : Nat) : Int) false
            rw [HPJ.out,HRD.out]
            exact HR6.out
          · unfold Hid
            show (rdDeed u (plAt u q1 j)).2.2 = false
            rw [HPJ.out,HRD.out]
          · unfold Hid
            show (rdDeed u (plAt u q1 j)).2.1 <= _
            rw [HPJ.out,HRD.out]
            exact HLE.out
          · unfold Hid
            rw [ddsTo_succ]
            unfold ddAt
            rw [HPJ.out,HRD.out]
            exact HO6.out
      · have HRT : Hid (rdTx u = []):=qH (rdTx_no (by rw [HE.out];dsimp only;rintro ⟨_,_,hk,_⟩;rw [okTo_no (n:=n.toNat) (i:=j) (by rw [HPJ.out];exact okDeed_bad (by rw [HRD.out])) (by omega)] at hk;cases hk))
        go_wp2_with fail
        go_ret2
        exact ⟨none,0,0,by rw [HRT.out];rfl,fun h => absurd HRT.out h,HBX.out⟩
    · have hjn : n = (j : Int):=by omega
      have HTN : Hid (n.toNat = j):=qH (by omega)
      have g0:=HRj.out.c0
      have g1:=HRj.out.c1
      have g2:=HRj.out.c2
      go_wp2_with fail
      go_region
      have HOd:=qH (own_below HOj.out (Below.refl _ _).drew)
      have HBd:=qH HBj.out.drew
      go_wp2_with fail
      go_ret2
      by_cases hps : (plAt u q1 j).1 = u.size
      · have HRT : Hid (rdTx u = ddsTo u q1 j):=qH (by
         rw [rdTx_yes (by rw [HE.out];dsimp only;rw [HTN.out];exact ⟨hn1,hn2,HOK.out,hps⟩),HE.out]
         dsimp only
         rw [HTN.out])
        have hne : ddsTo u q1 j ≠ []:=fun h0 => by have:=ddsTo_length u q1 j;rw [h0] at this;simp at this;omega
        have hpe : (((plAt u q1 j).1 : Int) == (u.size : Int)) = true:=by rw [hps];exact beq_self_eq_true _
        refine ⟨a,j,c,?_,fun _ => ?_,HBd.out⟩
        · rw [HRT.out,decide_eq_true hne,<- hpe]
          rfl
        · rw [HRT.out]
          exact own_mono HOd.out (by omega)
      · have HRT : Hid (rdTx u = []):=qH (rdTx_no (by rw [HE.out];dsimp only;rw [HTN.out];rintro ⟨_,_,_,hk⟩;exact hps hk))
        have hpe : (((plAt u q1 j).1 : Int) == (u.size : Int)) = false:=by rw [beq_eq_false_iff_ne];omega
        refine ⟨a,j,c,?_,fun h => absurd HRT.out h,HBd.out⟩
        rw [HRT.out]
        show Ending.returned (.tuple #[.slice a j c,.bool (((plAt u q1 j).1 : Int) == (u.size : Int))]) = _
        rw [hpe]
        rfl
 · rw [decide_eq_false hn]
   have HRT : Hid (rdTx u = []):=qH (rdTx_no (by rw [HE.out];dsimp only;rintro ⟨h1,h2,_⟩;exact hn ⟨h1,h2⟩))
   clear hn
   go_wp2_with fail
   go_ret2
   exact ⟨none,0,0,by rw [HRT.out];rfl,fun h => absurd HRT.out h,HB1.out⟩
end Go.Proofs.YtbgoldeopmlbnaaGreatDoor
