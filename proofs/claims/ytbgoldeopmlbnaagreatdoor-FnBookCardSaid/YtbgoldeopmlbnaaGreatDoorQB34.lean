/- Used by the law. -/
import Derived.Test.YtbgoldeopmlbnaaGreatDoorQB33
set_option maxRecDepth 100000
set_option maxHeartbeats 16000000
namespace Go.Proofs.YtbgoldeopmlbnaaGreatDoor
open Go.RowKit Go.PlainAid G MGet MGF IRow MNum MJoin
set_option linter.unusedVariables false
theorem SSL.far {w w' : World} {B M : Nat} {v : Value} {rs : List Rw} {L : Nat -> List Dd} (h : SSL w B v rs L) (hg : w.grownBy w' (some M)) (hM : M < B) : SSL w' B v rs L :=
 ⟨own_far h.out hg hM,fun i hi => own_far (h.row i hi) hg hM,h.dis⟩
theorem specReplay_any (s : ByteArray) (w : World) (hs : s.size <= maxLen) :
 Calls Tryz.prog 17 #[.string s] w (NewBook (bkOf s).c0 (bkOf s).c1 (bkOf s).c2 (bkOf s).c3 (bkOf s).ts (bkOf s).is w):=by
 have HTL:=qH (txRd_len s)
 have HTR:=qH (txRd_right s)
 have HBO : Hid ((rpS bk0 (txRd s)).1 = bkOf s):=qH rfl
 obtain ⟨W,hW⟩ : ∃ W,W = (w.alloc (.cells #[.int .i64 0,.int .i64 0,.int .i64 0,.int .i64 0,.slice none 0 0,.slice none 0 0] 28)).alloc (.cells #[.int .i64 0,.int .i64 0,.int .i64 0,.int .i64 0,.slice none 0 0,.slice none 0 0] 28):=⟨_,rfl⟩
 have HB0 : Hid (Below w.heap.size w W):=qH (by rw [hW];exact ((Below.refl _ _).alloc (Nat.le_refl _) _).alloc (by simp) _)
 have HZ0 : Hid (BoxC W w.heap.size [.int .i64 0,.int .i64 0,.int .i64 0,.int .i64 0,.slice none 0 0,.slice none 0 0]):=qH (by rw [hW];exact (BoxC.made w #[.int .i64 0,.int .i64 0,.int .i64 0,.int .i64 0,.slice none 0 0,.slice none 0 0] 28).alloc _)
 have HX0 : Hid (BoxC W (w.heap.size + 1) [.int .i64 0,.int .i64 0,.int .i64 0,.int .i64 0,.slice none 0 0,.slice none 0 0]):=qH (by rw [hW];have:=BoxC.made (w.alloc (.cells #[.int .i64 0,.int .i64 0,.int .i64 0,.int .i64 0,.slice none 0 0,.slice none 0 0] 28)) #[.int .i64 0,.int .i64 0,.int .i64 0,.int .i64 0,.slice none 0 0,.slice none 0 0] 28;rwa [World.size_alloc] at this)
 have HWS : Hid (w.heap.size + 1 + 1 = W.heap.size):=qH (by rw [hW,World.size_alloc,World.size_alloc])
 go_enter Tryz.func17,Tryz.ntmps17
 go_wp2_with fail
 rw [<- hW]
 clear hW
 refine (specTxRead_any s W hs).mono ?_
 rintro e w1 ⟨va,n,vc,rs,rfl,hn,hS,hm,hb⟩
 obtain ⟨hl,hSS,hten⟩:=hS.info hm
 have hnl : (txRd s).length = n:=(hn.trans hl).symm
 have HNL:=qH hnl
 have HRL : Hid (rs.length = n):=qH hn.symm
 have HTN:=qH hten
 have HSS:=qH hSS
 have HB1:=qH (HB0.out.trans (hb.mono HB0.out.size))
 have HZ1:=qH (HZ0.out.below hb)
 have HX1:=qH (HX0.out.below hb)
 have HS1:=qH hb.size
 have hn8 : n <= 8001:=by rw [<- HNL.out];exact HTL.out
 have HSB:=qH (show Below w1.heap.size w1 w1 from Below.refl _ _)
 clear hS hm hb hSS hl hnl hten hn HB0 HZ0 HX0
 go_wp2_with fail
 go_loopw [5] (fun i wr => ∃ (k : Nat) (b : Bk) (x1 : Option Addr) (m1 x3 : Nat) (x2 : Option Addr) (m2 x4 : Nat),k <= n /\ i = .int .i64 k /\ Hid (BoxC wr (w.heap.size + 1) [.int .i64 b.c0,.int .i64 b.c1,.int .i64 b.c2,.int .i64 b.c3,.slice x1 m1 x3,.slice x2 m2 x4]) /\ Hid (BkO wr W.heap.size x1 m1 x3 x2 m2 x4 b.ts b.is) /\ Hid (bookB b = true) /\ Hid (bkOf s = (rpS b ((txRd s).drop k)).1) /\ Hid (Below w.heap.size w wr) /\ Hid (BoxC wr w.heap.size [.int .i64 0,.int .i64 0,.int .i64 0,.int .i64 0,.slice none 0 0,.slice none 0 0]) /\ Hid (W.heap.size <= wr.heap.size) /\ Hid (SSL wr W.heap.size (.slice va n vc) rs (fun i => (txRd s).getD i []))) (fun i _ => n - (intOf i).toNat)
 case atStart => exact ⟨0,bk0,none,0,0,none,0,0,Nat.zero_le _,rfl,HX1,qH ⟨World.ownsRow_nil _ _ _ _,World.ownsRow_nil _ _ _ _⟩,qH bookB_bk0,qH (by rw [List.drop_zero];rfl),HB1,HZ1,HS1,HSS⟩
 case round =>
  obtain ⟨k,b,x1,m1,x3,x2,m2,x4,hk,rfl,HX,HO,HBR,HRP,HB,HZ,HSZ,HSL⟩:=hrel
  clear HX1 HB1 HZ1 HS1 HSS HSB
  by_cases hlt : k < n
  · have hlt2 : k < rs.length:=by rw [HRL.out];exact hlt
    have hs2:=HSL.out
    rw [<- HRL.out] at hs2
    obtain ⟨g,o,rfl,hg,t0,hdd⟩:=hs2.at hlt2
    clear hs2
    have hin : 0 <= (k : Int) /\ (k : Int) < (n : Int):=by omega
    have hlk : k < (txRd s).length:=by rw [HNL.out];exact hlt
    have HLM : Hid (LR ((txRd s).getD k [])):=qH (HTR.out _ (by rw [show (txRd s).getD k [] = (txRd s)[k] by simp [List.getD,List.getElem?_eq_getElem hlk]];exact List.getElem_mem hlk))
    have HDP : Hid ((txRd s).drop k = (txRd s).getD k [] :: (txRd s).drop (k + 1)):=qH (by
     rw [show (txRd s).getD k [] = (txRd s)[k]'hlk by simp [List.getD,List.getElem?_eq_getElem hlk]]
     exact List.drop_eq_getElem_cons hlk)
    have HDD:=qH hdd
    generalize (txRd s).getD k [] = l at *
    generalize (rs.getD k rwD).a = ra at *
    generalize (rs.getD k rwD).n = rn at *
    generalize (rs.getD k rwD).c = rc at *
    have hrl : l.length = rn:=hdd.len
    clear hdd hlk
    go_upto_region 6 with fail
    obtain ⟨r,hrr⟩ : ∃ r,doAllS b l = r:=⟨_,rfl⟩
    have HRR:=qH hrr
    have HRT : Hid (r.2 = 0 -> bookB r.1 = true):=qH (by rw [<- hrr];exact fun h0 => doAllS_right l HBR.out HLM.out.2.2 h0)
    have HRG : Hid (r.2 = 0 -> (rpS b ((txRd s).drop k)).1 = (rpS r.1 ((txRd s).drop (k + 1))).1):=qH (by rw [<- hrr,HDP.out];exact fun h0 => by rw [rpS_go h0])
    have HRN : Hid (¬ r.2 = 0 -> (rpS b ((txRd s).drop k)).1 = b):=qH (by rw [<- hrr,HDP.out];exact fun h0 => by rw [rpS_no h0])
    have HSS : Hid (∀ u,Below wr.heap.size wr u -> (BoxC u (w.heap.size + 1) [.int .i64 b.c0,.int .i64 b.c1,.int .i64 b.c2,.int .i64 b.c3,.slice x1 m1 x3,.slice x2 m2 x4] /\ u.cell? ⟨g,o + k,none⟩ = some (.slice ra rn rc))):=qH (fun u hu => ⟨HX.out.below hu,(hu.cell (p:=⟨g,o + k,none⟩) hg).trans t0⟩)
    have HB0:=qH (Below.refl wr.heap.size wr)
    have hmx : Tryz.prog.follows .mixedOrders = true:=by kernel_rfl
    have hl1 : 1 <= rn:=by rw [<- hrl];exact HLM.out.1
    have hln : rn <= 10:=by rw [<- hrl];exact HLM.out.2.1
    have HDQ:=qH (fun t (ht : t < rn) => HLM.out.2.2 t (by omega))
    clear hrr t0
    go_cut [6,7] from 11 to 28 (fun v v7 u => ∃ nb d0 d1 d2 d3 e1 p1 e3 e2 p2 e4,v = .pointer (some ⟨nb,0,none⟩) /\ v7 = .bool (decide (r.2 = 0)) /\ BoxC u nb [.int .i64 d0,.int .i64 d1,.int .i64 d2,.int .i64 d3,.slice e1 p1 e3,.slice e2 p2 e4] /\ (r.2 = 0 -> BkO u wr.heap.size e1 p1 e3 e2 p2 e4 r.1.ts r.1.is /\ d0 = r.1.c0 /\ d1 = r.1.c1 /\ d2 = r.1.c2 /\ d3 = r.1.c3) /\ wr.heap.size <= nb /\ Below wr.heap.size wr u)
    case first =>
     refine TillZ.region (t:=11) hmx (fun u => BoxC u (w.heap.size + 1) [.int .i64 b.c0,.int .i64 b.c1,.int .i64 b.c2,.int .i64 b.c3,.slice x1 m1 x3,.slice x2 m2 x4] /\ u.cell? ⟨g,o + k,none⟩ = some (.slice ra rn rc)) ?_
     have HU0:=qH (HB0.out.drew)
     have hS0:=HSS.out _ HU0.out
     refine TillZ.take4 (i:=0) (v:=.agg #[.int .i64 b.c0,.int .i64 b.c1,.int .i64 b.c2,.int .i64 b.c3,.slice x1 m1 x3,.slice x2 m2 x4]) rfl rfl rfl (by kernel_rfl) hS0 (fun u hu => by have z0:=hu.1.cell 0 _ rfl;have z1:=hu.1.cell 1 _ rfl;have z2:=hu.1.cell 2 _ rfl;have z3:=hu.1.cell 3 _ rfl;have z4:=hu.1.cell 4 _ rfl;have z5:=hu.1.cell 5 _ rfl;go_simp) ?_
     simp only [pS,List.set,zT,zZ]
     refine TillZ.take4 (i:=1) (v:=.slice (some ⟨g,o,none⟩) n vc) rfl rfl rfl (by kernel_rfl) hS0 (fun u hu => by go_simp) ?_
     simp only [pS,List.set,zT,zZ,zU]
     refine TillZ.take4 (i:=2) (v:=.int .i64 (k : Int)) rfl rfl rfl (by kernel_rfl) hS0 (fun u hu => by go_simp) ?_
     simp only [pS,List.set,zT,zZ,zU]
     refine TillZ.take4 (i:=3) (v:=.pointer (some ⟨g,o + k,none⟩)) rfl rfl rfl (by kernel_rfl) hS0 (fun u hu => by go_simp) ?_
     simp only [pS,List.set,zT,zZ,zU]
     refine TillZ.take4 (i:=4) (v:=.slice ra rn rc) rfl rfl rfl (by kernel_rfl) hS0 (fun u hu => by obtain ⟨_,y0⟩:=hu;go_simp) ?_
     simp only [pS,List.set,zT,zZ,zU]
     generalize hu0 : wr.drew = u0 at *
     clear hu0
     refine TillZ.two (i:=5) (j:=9) (by kernel_rfl) ?_ ?_
     · skip
       refine TillZ.callz (i:=5) (f:=51) (args:=#[.agg #[.int .i64 b.c0,.int .i64 b.c1,.int .i64 b.c2,.int .i64 b.c3,.slice x1 m1 x3,.slice x2 m2 x4],.slice ra rn rc]) rfl rfl rfl (by go_simp) ?_
       refine Calls.mono (l07All_any b x1 x2 m1 m2 x3 x4 W.heap.size ra rn rc l u0 (HO.out.below HU0.out) (Nat.le_trans HSZ.out HU0.out.size) HBR.out (SR.below HDD.out HU0.out) hl1 hln HDQ.out) ?_
       rintro e ua hnb
       rw [HRR.out] at hnb
       obtain ⟨d0,d1,d2,d3,e1,p1,e3,e2,p2,e4,rfl,ho,hb⟩:=hnb
       have HUua:=qH (HU0.out.trans (hb.mono HU0.out.size))
       refine ⟨_,rfl,HSS.out _ HUua.out,?_⟩
       simp only [pS,List.set,zT,zZ,zU]
       refine TillZ.take4 (i:=6) (v:=.tuple #[.agg #[.int .i64 d0,.int .i64 d1,.int .i64 d2,.int .i64 d3,.slice e1 p1 e3,.slice e2 p2 e4],.bool (decide (r.2 = 0))]) rfl rfl rfl (by kernel_rfl) (HSS.out _ HUua.out) (fun u hu => by go_simp) ?_
       simp only [pS,List.set,zT,zZ,zU]
       refine TillZ.take4 (i:=7) (v:=.agg #[.int .i64 d0,.int .i64 d1,.int .i64 d2,.int .i64 d3,.slice e1 p1 e3,.slice e2 p2 e4]) rfl rfl rfl (by kernel_rfl) (HSS.out _ HUua.out) (fun u hu => by go_simp) ?_
       simp only [pS,List.set,zT,zZ,zU]
       refine TillZ.take4 (i:=8) (v:=.bool (decide (r.2 = 0))) rfl rfl rfl (by kernel_rfl) (HSS.out _ HUua.out) (fun u hu => by go_simp) ?_
       simp only [pS,List.set,zT,zZ,zU]
       refine TillZ.one (i:=9) (by kernel_rfl) ?_
       refine TillZ.opz (i:=9) (v:=.pointer (some ⟨ua.heap.size,0,none⟩)) (w':=ua.alloc (.cells #[.int .i64 0,.int .i64 0,.int .i64 0,.int .i64 0,.slice none 0 0,.slice none 0 0] 28)) rfl rfl rfl (by go_simp) (HSS.out _ (HUua.out.alloc HUua.out.size _)) ?_
       simp only [pS,List.set,zT,zZ,zU]
       have HUub:=qH (HUua.out.alloc HUua.out.size (.cells #[.int .i64 0,.int .i64 0,.int .i64 0,.int .i64 0,.slice none 0 0,.slice none 0 0] 28))
       have HXub:=qH (BoxC.made ua #[.int .i64 0,.int .i64 0,.int .i64 0,.int .i64 0,.slice none 0 0,.slice none 0 0] 28)
       have HNBub:=qH HUua.out.size
       have HAUB:=qH ((Below.refl ua.heap.size ua).alloc (Nat.le_refl _) (.cells #[.int .i64 0,.int .i64 0,.int .i64 0,.int .i64 0,.slice none 0 0,.slice none 0 0] 28))
       generalize hub : ua.alloc (.cells #[.int .i64 0,.int .i64 0,.int .i64 0,.int .i64 0,.slice none 0 0,.slice none 0 0] 28) = ub at *
       clear hub
       have z0:=HXub.out.cell 0 _ rfl
       have f0:=HXub.out.free 0
       have z1:=HXub.out.cell 1 _ rfl
       have f1:=HXub.out.free 1
       have z2:=HXub.out.cell 2 _ rfl
       have f2:=HXub.out.free 2
       have z3:=HXub.out.cell 3 _ rfl
       have f3:=HXub.out.free 3
       have z4:=HXub.out.cell 4 _ rfl
       have f4:=HXub.out.free 4
       have z5:=HXub.out.cell 5 _ rfl
       have f5:=HXub.out.free 5
       obtain ⟨hY,hG⟩:=box_put6 HXub.out (.int .i64 d0) (.int .i64 d1) (.int .i64 d2) (.int .i64 d3) (.slice e1 p1 e3) (.slice e2 p2 e4)
       refine TillZ.one (i:=10) (by kernel_rfl) ?_
       refine TillZ.opz_skip (i:=10) (w':=(((((ub.setCell ⟨ua.heap.size,0,none⟩ (.int .i64 d0)).setCell ⟨ua.heap.size,1,none⟩ (.int .i64 d1)).setCell ⟨ua.heap.size,2,none⟩ (.int .i64 d2)).setCell ⟨ua.heap.size,3,none⟩ (.int .i64 d3)).setCell ⟨ua.heap.size,4,none⟩ (.slice e1 p1 e3)).setCell ⟨ua.heap.size,5,none⟩ (.slice e2 p2 e4)) rfl rfl rfl (by go_simp) (HSS.out _ (grown_below HUub.out hG HNBub.out HUub.out.size)) ?_
       simp only [pN,zT,zZ,zU]
       refine TillZ.hand (v:=.bool (decide (r.2 = 0))) (by kernel_rfl) rfl rfl (by go_simp) ?_
       simp only [pS,List.set,zT,zZ,zU]
       refine TillZ.any_done (by kernel_rfl) ?_ _
       clear z0 f0 z1 f1 z2 f2 z3 f3 z4 f4 z5 f5
       generalize (((((ub.setCell ⟨ua.heap.size,0,none⟩ (.int .i64 d0)).setCell ⟨ua.heap.size,1,none⟩ (.int .i64 d1)).setCell ⟨ua.heap.size,2,none⟩ (.int .i64 d2)).setCell ⟨ua.heap.size,3,none⟩ (.int .i64 d3)).setCell ⟨ua.heap.size,4,none⟩ (.slice e1 p1 e3)).setCell ⟨ua.heap.size,5,none⟩ (.slice e2 p2 e4) = Y at *
       go_wp2_with fail
       go_meet
       case rel => exact ⟨ua.heap.size,d0,d1,d2,d3,e1,p1,e3,e2,p2,e4,rfl,rfl,hY,fun h0 => by have ⟨hoo,hee⟩:=ho h0;exact ⟨⟨own_apartP (own_below (own_mono hoo.t HU0.out.size) HAUB.out) hG (fun q hq => by have:=(hoo.t.lt q hq).2;omega),own_apartP (own_below (own_mono hoo.i HU0.out.size) HAUB.out) hG (fun q hq => by have:=(hoo.i.lt q hq).2;omega)⟩,hee⟩,HNBub.out,grown_below HUub.out hG HNBub.out HUub.out.size⟩
     · skip
       refine TillZ.opz (i:=9) (v:=.pointer (some ⟨u0.heap.size,0,none⟩)) (w':=u0.alloc (.cells #[.int .i64 0,.int .i64 0,.int .i64 0,.int .i64 0,.slice none 0 0,.slice none 0 0] 28)) rfl rfl rfl (by go_simp) (HSS.out _ (HU0.out.alloc HU0.out.size _)) ?_
       simp only [pS,List.set,zT,zZ,zU]
       have HUub:=qH (HU0.out.alloc HU0.out.size (.cells #[.int .i64 0,.int .i64 0,.int .i64 0,.int .i64 0,.slice none 0 0,.slice none 0 0] 28))
       have HXub:=qH (BoxC.made u0 #[.int .i64 0,.int .i64 0,.int .i64 0,.int .i64 0,.slice none 0 0,.slice none 0 0] 28)
       have HNBub:=qH HU0.out.size
       generalize hub : u0.alloc (.cells #[.int .i64 0,.int .i64 0,.int .i64 0,.int .i64 0,.slice none 0 0,.slice none 0 0] 28) = ub at *
       clear hub
       refine TillZ.one (i:=5) (by kernel_rfl) ?_
       refine TillZ.callz (i:=5) (f:=51) (args:=#[.agg #[.int .i64 b.c0,.int .i64 b.c1,.int .i64 b.c2,.int .i64 b.c3,.slice x1 m1 x3,.slice x2 m2 x4],.slice ra rn rc]) rfl rfl rfl (by go_simp) ?_
       refine Calls.mono (l07All_any b x1 x2 m1 m2 x3 x4 W.heap.size ra rn rc l ub (HO.out.below HUub.out) (Nat.le_trans HSZ.out HUub.out.size) HBR.out (SR.below HDD.out HUub.out) hl1 hln HDQ.out) ?_
       rintro e ua hnb
       rw [HRR.out] at hnb
       obtain ⟨d0,d1,d2,d3,e1,p1,e3,e2,p2,e4,rfl,ho,hb⟩:=hnb
       have HUua:=qH (HUub.out.trans (hb.mono HUub.out.size))
       refine ⟨_,rfl,HSS.out _ HUua.out,?_⟩
       simp only [pS,List.set,zT,zZ,zU]
       refine TillZ.take4 (i:=6) (v:=.tuple #[.agg #[.int .i64 d0,.int .i64 d1,.int .i64 d2,.int .i64 d3,.slice e1 p1 e3,.slice e2 p2 e4],.bool (decide (r.2 = 0))]) rfl rfl rfl (by kernel_rfl) (HSS.out _ HUua.out) (fun u hu => by go_simp) ?_
       simp only [pS,List.set,zT,zZ,zU]
       refine TillZ.take4 (i:=7) (v:=.agg #[.int .i64 d0,.int .i64 d1,.int .i64 d2,.int .i64 d3,.slice e1 p1 e3,.slice e2 p2 e4]) rfl rfl rfl (by kernel_rfl) (HSS.out _ HUua.out) (fun u hu => by go_simp) ?_
       simp only [pS,List.set,zT,zZ,zU]
       refine TillZ.take4 (i:=8) (v:=.bool (decide (r.2 = 0))) rfl rfl rfl (by kernel_rfl) (HSS.out _ HUua.out) (fun u hu => by go_simp) ?_
       simp only [pS,List.set,zT,zZ,zU]
       have HX:=qH (HXub.out.below hb)
       have z0:=HX.out.cell 0 _ rfl
       have f0:=HX.out.free 0
       have z1:=HX.out.cell 1 _ rfl
       have f1:=HX.out.free 1
       have z2:=HX.out.cell 2 _ rfl
       have f2:=HX.out.free 2
       have z3:=HX.out.cell 3 _ rfl
       have f3:=HX.out.free 3
       have z4:=HX.out.cell 4 _ rfl
       have f4:=HX.out.free 4
       have z5:=HX.out.cell 5 _ rfl
       have f5:=HX.out.free 5
       obtain ⟨hY,hG⟩:=box_put6 HX.out (.int .i64 d0) (.int .i64 d1) (.int .i64 d2) (.int .i64 d3) (.slice e1 p1 e3) (.slice e2 p2 e4)
       refine TillZ.one (i:=10) (by kernel_rfl) ?_
       refine TillZ.opz_skip (i:=10) (w':=(((((ua.setCell ⟨u0.heap.size,0,none⟩ (.int .i64 d0)).setCell ⟨u0.heap.size,1,none⟩ (.int .i64 d1)).setCell ⟨u0.heap.size,2,none⟩ (.int .i64 d2)).setCell ⟨u0.heap.size,3,none⟩ (.int .i64 d3)).setCell ⟨u0.heap.size,4,none⟩ (.slice e1 p1 e3)).setCell ⟨u0.heap.size,5,none⟩ (.slice e2 p2 e4)) rfl rfl rfl (by go_simp) (HSS.out _ (grown_below HUua.out hG HNBub.out HUua.out.size)) ?_
       simp only [pN,zT,zZ,zU]
       refine TillZ.hand (v:=.bool (decide (r.2 = 0))) (by kernel_rfl) rfl rfl (by go_simp) ?_
       simp only [pS,List.set,zT,zZ,zU]
       refine TillZ.any_done (by kernel_rfl) ?_ _
       clear z0 f0 z1 f1 z2 f2 z3 f3 z4 f4 z5 f5
       generalize (((((ua.setCell ⟨u0.heap.size,0,none⟩ (.int .i64 d0)).setCell ⟨u0.heap.size,1,none⟩ (.int .i64 d1)).setCell ⟨u0.heap.size,2,none⟩ (.int .i64 d2)).setCell ⟨u0.heap.size,3,none⟩ (.int .i64 d3)).setCell ⟨u0.heap.size,4,none⟩ (.slice e1 p1 e3)).setCell ⟨u0.heap.size,5,none⟩ (.slice e2 p2 e4) = Y at *
       go_wp2_with fail
       go_meet
       case rel => exact ⟨u0.heap.size,d0,d1,d2,d3,e1,p1,e3,e2,p2,e4,rfl,rfl,hY,fun h0 => by have ⟨hoo,hee⟩:=ho h0;exact ⟨⟨own_apartP (own_mono hoo.t HUub.out.size) hG (fun q hq => by have:=(hoo.t.lt q hq).1;have:=HXub.out.lt;omega),own_apartP (own_mono hoo.i HUub.out.size) hG (fun q hq => by have:=(hoo.i.lt q hq).1;have:=HXub.out.lt;omega)⟩,hee⟩,HNBub.out,grown_below HUua.out hG HNBub.out HUua.out.size⟩
    case rest =>
     obtain ⟨nb,d0,d1,d2,d3,e1,p1,e3,e2,p2,e4,rfl,rfl,hXB,hOB,hnb,hU⟩:=hcut
     have HXB:=qH hXB
     have HU:=qH hU
     have HOB:=qH hOB
     have HX2:=qH (HX.out.below hU)
     have HZ2:=qH (HZ.out.below hU)
     have HO2:=qH (HO.out.below hU)
     have HB2:=qH (HB.out.trans (hU.mono HB.out.size))
     have HS2:=qH (Nat.le_trans HSZ.out hU.size)
     have HL2:=qH (HSL.out.below hU)
     clear hXB hU hOB hnb HSS HB0 HX HZ HO HB HRR HSL HDQ
     obtain ⟨b3,cd⟩:=r
     dsimp only at HRT HRG HRN HOB ⊢
     by_cases hc : cd = 0
     · subst hc
       obtain ⟨ho,rfl,rfl,rfl,rfl⟩:=HOB.out rfl
       have HOX:=qH (ho.mono HSZ.out)
       have v0:=(HXB.out).cell 0 _ rfl
       have v1:=(HXB.out).cell 1 _ rfl
       have v2:=(HXB.out).cell 2 _ rfl
       have v3:=(HXB.out).cell 3 _ rfl
       have v4:=(HXB.out).cell 4 _ rfl
       have v5:=(HXB.out).cell 5 _ rfl
       have hXV:=HX2.out
       have z0:=(hXV).cell 0 _ rfl
       have z1:=(hXV).cell 1 _ rfl
       have z2:=(hXV).cell 2 _ rfl
       have z3:=(hXV).cell 3 _ rfl
       have z4:=(hXV).cell 4 _ rfl
       have z5:=(hXV).cell 5 _ rfl
       have f0:=(hXV).free 0
       have f1:=(hXV).free 1
       have f2:=(hXV).free 2
       have f3:=(hXV).free 3
       have f4:=(hXV).free 4
       have f5:=(hXV).free 5
       obtain ⟨hY,hG⟩:=box_put6 hXV (.int .i64 b3.c0) (.int .i64 b3.c1) (.int .i64 b3.c2) (.int .i64 b3.c3) (.slice e1 p1 e3) (.slice e2 p2 e4)
       obtain ⟨Y,hYd⟩ : ∃ Y,Y = (((((wc.setCell ⟨w.heap.size + 1,0,none⟩ (.int .i64 b3.c0)).setCell ⟨w.heap.size + 1,1,none⟩ (.int .i64 b3.c1)).setCell ⟨w.heap.size + 1,2,none⟩ (.int .i64 b3.c2)).setCell ⟨w.heap.size + 1,3,none⟩ (.int .i64 b3.c3)).setCell ⟨w.heap.size + 1,4,none⟩ (.slice e1 p1 e3)).setCell ⟨w.heap.size + 1,5,none⟩ (.slice e2 p2 e4):=⟨_,rfl⟩
       rw [<- hYd] at hY hG
       have HYX:=qH hY
       have HYO:=qH (bkO_far HOX.out hG (by have:=HWS.out;omega))
       have HYB:=qH (grown_below HB2.out hG (by omega) HB2.out.size)
       have HYZ:=qH (HZ2.out.grown hG (by simp))
       have HYS : Hid (W.heap.size <= Y.heap.size):=qH (Nat.le_trans HS2.out hG.size)
       have HYL:=qH (HL2.out.far hG (by have:=HWS.out;omega))
       have HDN : Hid (bkOf s = (rpS b3 ((txRd s).drop (k + 1))).1):=qH (HRP.out.trans (HRG.out rfl))
       have HBN:=qH (HRT.out rfl)
       have HYD:=qH hYd
       have hwk : IntKind.i64.wrap ((k : Int) + 1) = (k : Int) + 1:=IntWalk.i64_in _ (by omega)
       rw [show decide ((0 : Int) = 0) = true from rfl]
       clear hXV hY hG hYd HX2 HZ2 HO2 HB2 HS2 HRT HRG HRN HOB HXB HL2 ho HOX HSZ
       go_wp2_with fail
       rw [<- HYD.out]
       clear v0 v1 v2 v3 v4 v5 z0 z1 z2 z3 z4 z5 f0 f1 f2 f3 f4 f5
       go_roundw
       case rel => exact ⟨k + 1,b3,e1,p1,e3,e2,p2,e4,by omega,by go_num,HYX,HYO,HBN,HDN,HYB,HYZ,HYS,HYL⟩
       case measure => simp [intOf];omega
     · rw [decide_eq_false hc]
       have HRE : Hid (bkOf s = b):=qH (HRP.out.trans (HRN.out hc))
       clear hc
       have hZV:=HZ2.out
       have y0:=(HX2.out).cell 0 _ rfl
       have y1:=(HX2.out).cell 1 _ rfl
       have y2:=(HX2.out).cell 2 _ rfl
       have y3:=(HX2.out).cell 3 _ rfl
       have y4:=(HX2.out).cell 4 _ rfl
       have y5:=(HX2.out).cell 5 _ rfl
       have z0:=(hZV).cell 0 _ rfl
       have z1:=(hZV).cell 1 _ rfl
       have z2:=(hZV).cell 2 _ rfl
       have z3:=(hZV).cell 3 _ rfl
       have z4:=(hZV).cell 4 _ rfl
       have z5:=(hZV).cell 5 _ rfl
       have f0:=(hZV).free 0
       have f1:=(hZV).free 1
       have f2:=(hZV).free 2
       have f3:=(hZV).free 3
       have f4:=(hZV).free 4
       have f5:=(hZV).free 5
       obtain ⟨hY,hG⟩:=box_put6 hZV (.int .i64 b.c0) (.int .i64 b.c1) (.int .i64 b.c2) (.int .i64 b.c3) (.slice x1 m1 x3) (.slice x2 m2 x4)
       obtain ⟨Y,hYd⟩ : ∃ Y,Y = ((((((wc.setCell ⟨w.heap.size,0,none⟩ (.int .i64 b.c0)).setCell ⟨w.heap.size,1,none⟩ (.int .i64 b.c1)).setCell ⟨w.heap.size,2,none⟩ (.int .i64 b.c2)).setCell ⟨w.heap.size,3,none⟩ (.int .i64 b.c3)).setCell ⟨w.heap.size,4,none⟩ (.slice x1 m1 x3)).setCell ⟨w.heap.size,5,none⟩ (.slice x2 m2 x4)):=⟨_,rfl⟩
       rw [<- hYd] at hY hG
       have HYO:=qH (bkO_far HO2.out hG (by have:=HWS.out;omega))
       have HYB:=qH (grown_below HB2.out hG (Nat.le_refl _) (by have:=HB2.out.size;omega))
       have g0:=(hY).cell 0 _ rfl
       have g1:=(hY).cell 1 _ rfl
       have g2:=(hY).cell 2 _ rfl
       have g3:=(hY).cell 3 _ rfl
       have g4:=(hY).cell 4 _ rfl
       have g5:=(hY).cell 5 _ rfl
       have HG:=qH (And.intro g0 (And.intro g1 (And.intro g2 (And.intro g3 (And.intro g4 g5)))))
       have HYD:=qH hYd
       clear hZV hY hG hYd g0 g1 g2 g3 g4 g5
       go_wp2_with fail
       rw [<- HYD.out]
       obtain ⟨g0,g1,g2,g3,g4,g5⟩:=HG.out
       clear y0 y1 y2 y3 y4 y5 z0 z1 z2 z3 z4 z5 f0 f1 f2 f3 f4 f5
       exact bodyPost_ret (v:=.agg #[.int .i64 b.c0,.int .i64 b.c1,.int .i64 b.c2,.int .i64 b.c3,.slice x1 m1 x3,.slice x2 m2 x4]) (by simp [results,Tryz.results17,go_sem,g0,g1,g2,g3,g4,g5]) rfl (by
        rw [show bkOf s = b from HRE.out]
        exact ⟨x1,m1,x3,x2,m2,x4,rfl,HYO.out.mono (by have:=HWS.out;omega),HYB.out⟩)
  · obtain rfl : k = n:=by omega
    have HRE : Hid (bkOf s = b):=qH (by rw [HRP.out,List.drop_eq_nil_of_le (by rw [HNL.out];exact Nat.le_refl _)];rfl)
    have hZV:=HZ.out
    have y0:=(HX.out).cell 0 _ rfl
    have y1:=(HX.out).cell 1 _ rfl
    have y2:=(HX.out).cell 2 _ rfl
    have y3:=(HX.out).cell 3 _ rfl
    have y4:=(HX.out).cell 4 _ rfl
    have y5:=(HX.out).cell 5 _ rfl
    have z0:=(hZV).cell 0 _ rfl
    have z1:=(hZV).cell 1 _ rfl
    have z2:=(hZV).cell 2 _ rfl
    have z3:=(hZV).cell 3 _ rfl
    have z4:=(hZV).cell 4 _ rfl
    have z5:=(hZV).cell 5 _ rfl
    have f0:=(hZV).free 0
    have f1:=(hZV).free 1
    have f2:=(hZV).free 2
    have f3:=(hZV).free 3
    have f4:=(hZV).free 4
    have f5:=(hZV).free 5
    obtain ⟨hY,hG⟩:=box_put6 hZV (.int .i64 b.c0) (.int .i64 b.c1) (.int .i64 b.c2) (.int .i64 b.c3) (.slice x1 m1 x3) (.slice x2 m2 x4)
    obtain ⟨Y,hYd⟩ : ∃ Y,Y = ((((((wr.setCell ⟨w.heap.size,0,none⟩ (.int .i64 b.c0)).setCell ⟨w.heap.size,1,none⟩ (.int .i64 b.c1)).setCell ⟨w.heap.size,2,none⟩ (.int .i64 b.c2)).setCell ⟨w.heap.size,3,none⟩ (.int .i64 b.c3)).setCell ⟨w.heap.size,4,none⟩ (.slice x1 m1 x3)).setCell ⟨w.heap.size,5,none⟩ (.slice x2 m2 x4)):=⟨_,rfl⟩
    rw [<- hYd] at hY hG
    have HYO:=qH (bkO_far HO.out hG (by have:=HWS.out;omega))
    have HYB:=qH (grown_below HB.out hG (Nat.le_refl _) (by have:=HB.out.size;omega))
    have g0:=(hY).cell 0 _ rfl
    have g1:=(hY).cell 1 _ rfl
    have g2:=(hY).cell 2 _ rfl
    have g3:=(hY).cell 3 _ rfl
    have g4:=(hY).cell 4 _ rfl
    have g5:=(hY).cell 5 _ rfl
    have HG:=qH (And.intro g0 (And.intro g1 (And.intro g2 (And.intro g3 (And.intro g4 g5)))))
    have HYD:=qH hYd
    clear hZV hY hG hYd g0 g1 g2 g3 g4 g5
    go_wp2_with fail
    rw [<- HYD.out]
    obtain ⟨g0,g1,g2,g3,g4,g5⟩:=HG.out
    clear y0 y1 y2 y3 y4 y5 z0 z1 z2 z3 z4 z5 f0 f1 f2 f3 f4 f5
    exact bodyPost_ret (v:=.agg #[.int .i64 b.c0,.int .i64 b.c1,.int .i64 b.c2,.int .i64 b.c3,.slice x1 m1 x3,.slice x2 m2 x4]) (by simp [results,Tryz.results17,go_sem,g0,g1,g2,g3,g4,g5]) rfl (by
     rw [show bkOf s = b from HRE.out]
     exact ⟨x1,m1,x3,x2,m2,x4,rfl,HYO.out.mono (by have:=HWS.out;omega),HYB.out⟩)
end Go.Proofs.YtbgoldeopmlbnaaGreatDoor
