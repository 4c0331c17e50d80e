/- Used by the law. -/
import Derived.Test.YthkbcjnbmciolaaGreatDoorQV33
set_option maxRecDepth 100000
set_option maxHeartbeats 16000000
namespace Go.Proofs.YthkbcjnbmciolaaGreatDoor
open Go.RowKit Go.PlainAid G MGet MGF IRow MNum MJoin
set_option linter.unusedVariables false
def sameB (x y : Bk) : Bool:=eqConf2 x.c0 x.c1 x.c2 x.c3 y.c0 y.c1 y.c2 y.c3 && (eqTmL x.ts y.ts && eqImL x.is y.is)
def cleanB (s : ByteArray) : Bool:=decide ((rpS bk0 (txRd s)).2 = (txRd s).length) && decide (bytesOf (txRd s) = s)
def onDiskB (s t : ByteArray) (b : Bk) : Bool:=decide (s.size + t.size <= 3000) && (decide (t = ⟨#[]⟩) && (cleanB s && sameB (bkOf s) b))
theorem empty_no {t : ByteArray} (h : ¬ t = ⟨#[]⟩) : t.toList.isEmpty = false:=by rw [empty_eqb,decide_eq_false h]
theorem onDisk_any (s t : ByteArray) (c0 c1 c2 c3 : Int) (b1 : Option Addr) (n1 b3 : Nat) (b2 : Option Addr) (n2 b4 : Nat) (ts : List Tm) (is : List Im) (w : World) (hs : s.size + t.size <= 9007199254740992) (h : BkR w b1 n1 b3 b2 n2 b4 ts is) (hn1 : n1 <= 1048576) (hn2 : n2 <= 1048576) (hg : ET w) :
 Calls Tryz.prog 54 #[.agg #[.string s,.string t],.agg #[.int .i64 c0,.int .i64 c1,.int .i64 c2,.int .i64 c3,.slice b1 n1 b3,.slice b2 n2 b4]] w fun e w' => e = .returned (.bool (onDiskB s t ⟨c0,c1,c2,c3,ts,is⟩)) /\ Below w.heap.size w w':=by
 have HR:=qH h
 have HS:=qH hs
 clear h hs
 obtain ⟨W,hW⟩ : ∃ W,W = (w.alloc (.cells #[.string s,.string t] 38)).alloc (.cells #[.int .i64 c0,.int .i64 c1,.int .i64 c2,.int .i64 c3,.slice b1 n1 b3,.slice b2 n2 b4] 43):=⟨_,rfl⟩
 have HB0 : Hid (Below w.heap.size w W):=qH (by rw [hW];exact ((Below.refl _ _).alloc (Nat.le_refl _) _).alloc (by simp) _)
 have HX0 : Hid (BoxC W w.heap.size [.string s,.string t]):=qH (by rw [hW];exact (BoxC.made w #[.string s,.string t] 38).alloc _)
 have HY0 : Hid (BoxC W (w.heap.size + 1) [.int .i64 c0,.int .i64 c1,.int .i64 c2,.int .i64 c3,.slice b1 n1 b3,.slice b2 n2 b4]):=qH (by rw [hW];have:=BoxC.made (w.alloc (.cells #[.string s,.string t] 38)) #[.int .i64 c0,.int .i64 c1,.int .i64 c2,.int .i64 c3,.slice b1 n1 b3,.slice b2 n2 b4] 43;rwa [World.size_alloc] at this)
 go_enter Tryz.func54,Tryz.ntmps54
 go_upto_region 1 with fail
 rw [<- hW]
 clear hW
 have x0:=HX0.out.cell 0 _ rfl
 have x1:=HX0.out.cell 1 _ rfl
 go_wp2_with fail
 clear x0 x1
 refine (implDiskRight_any s t _ HS.out).mono ?_
 rintro e w1 ⟨rfl,hb⟩
 have HX1:=qH (HX0.out.below hb)
 have HY1:=qH (HY0.out.below hb)
 have HB1:=qH (HB0.out.trans (hb.mono HB0.out.size))
 clear hb HX0 HY0 HB0
 by_cases hd : s.size + t.size <= 3000
 · rw [decide_eq_true hd]
   have HDD:=qH hd
   have hs3 : s.size <= 3000:=by omega
   clear hd
   have x1:=HX1.out.cell 1 _ rfl
   by_cases ht : t = ⟨#[]⟩
   · have HTT:=qH ht
     subst ht
     have x0:=HX1.out.cell 0 _ rfl
     go_wp2_with fail
     clear x0 x1
     refine (implTxRead_any s w1 (by unfold maxLen;omega) (hg.below HB1.out)).mono ?_
     rintro e w2 ⟨va,n,vc,rs,rfl,hn,hSS,hm,hb⟩
     obtain ⟨hl,hSL,hten⟩:=hSS.info hm
     have HNL:=qH (show (txRd s).length = n from (hn.trans hl).symm)
     have HRL:=qH (show rs.length = n from hn.symm)
     have HSL:=qH hSL
     have HTL:=qH (txRd_len s)
     have HX2:=qH (HX1.out.below hb)
     have HY2:=qH (HY1.out.below hb)
     have HB2:=qH (HB1.out.trans (hb.mono HB1.out.size))
     clear hn hl hSS hm hb hten hSL HX1 HY1 HB1
     obtain ⟨B2,hB2⟩ : ∃ B2,B2 = w1.heap.size:=⟨_,rfl⟩
     rw [<- hB2] at HSL
     clear hB2
     go_wp2_with fail
     have hcon:=replayed_any va n vc B2 rs (txRd s) w2 HRL.out HNL.out (by have:=HTL.out;have:=HNL.out;omega) HSL.out (txRd_right s)
     obtain ⟨R,hR⟩ : ∃ R,R = rpS bk0 (txRd s):=⟨_,rfl⟩
     have HBK : Hid (bkOf s = R.1):=qH (by rw [hR];rfl)
     have HRK : Hid ((rpS bk0 (txRd s)).2 = R.2):=qH (by rw [hR])
     rw [<- hR] at hcon
     clear hR
     obtain ⟨⟨d0,d1,d2,d3,us,vs⟩,kk⟩:=R
     dsimp only at hcon HBK HRK
     refine hcon.mono ?_
     clear hcon
     rintro e w3 ⟨e1,m1,e3,e2,m2,e4,rfl,ho,hb⟩
     dsimp only at ho ⊢
     have HBS:=qH (book_sizes (bkOf_right s))
     have HM : Hid (m1 <= 1048576 /\ m2 <= 1048576):=qH (by have h1:=HBS.out;rw [HBK.out] at h1;dsimp only at h1;have:=ho.len;omega)
     have HO3:=qH ho.read
     have HX3:=qH (HX2.out.below hb)
     have HY3:=qH (HY2.out.below hb)
     have HB3:=qH (HB2.out.trans (hb.mono HB2.out.size))
     have HL3:=qH (HSL.out.below hb)
     clear ho hb HX2 HY2 HB2 HSL HBS
     obtain ⟨V,hV⟩ : ∃ V,V = w3.alloc (.cells #[.int .i64 d0,.int .i64 d1,.int .i64 d2,.int .i64 d3,.slice e1 m1 e3,.slice e2 m2 e4] 43):=⟨_,rfl⟩
     have hAB : Below w3.heap.size w3 V:=by rw [hV];exact (Below.refl _ _).alloc (Nat.le_refl _) _
     have HT4:=qH (show BoxC V w3.heap.size [.int .i64 d0,.int .i64 d1,.int .i64 d2,.int .i64 d3,.slice e1 m1 e3,.slice e2 m2 e4] by rw [hV];exact BoxC.made _ _ _)
     have HO4:=qH (HO3.out.below hAB)
     have HX4:=qH (HX3.out.below hAB)
     have HY4:=qH (HY3.out.below hAB)
     have HB4:=qH (HB3.out.trans (hAB.mono HB3.out.size))
     have HL4:=qH (HL3.out.below hAB)
     obtain ⟨hq,hhq⟩ : ∃ hq,hq = w3.heap.size:=⟨_,rfl⟩
     rw [<- hhq] at HT4
     clear hAB HO3 HX3 HY3 HB3 HL3
     go_upto_region 5 with fail
     rw [<- hV,<- hhq]
     clear hV hhq
     -- what holds in each world from here on
     obtain ⟨S,hS⟩ : ∃ S : World -> Prop,S = fun u => Below w.heap.size w u /\ (BoxC u w.heap.size [.string s,.string ⟨#[]⟩] /\ BoxC u (w.heap.size + 1) [.int .i64 c0,.int .i64 c1,.int .i64 c2,.int .i64 c3,.slice b1 n1 b3,.slice b2 n2 b4]) /\ BoxC u hq [.int .i64 d0,.int .i64 d1,.int .i64 d2,.int .i64 d3,.slice e1 m1 e3,.slice e2 m2 e4] /\ SSL u B2 (.slice va n vc) rs (fun i => (txRd s).getD i []) /\ BkR u e1 m1 e3 e2 m2 e4 us vs /\ BkR u b1 n1 b3 b2 n2 b4 ts is:=⟨_,rfl⟩
     have HSX : Hid (∀ u,S u -> Below w.heap.size w u /\ (BoxC u w.heap.size [.string s,.string ⟨#[]⟩] /\ BoxC u (w.heap.size + 1) [.int .i64 c0,.int .i64 c1,.int .i64 c2,.int .i64 c3,.slice b1 n1 b3,.slice b2 n2 b4]) /\ BoxC u hq [.int .i64 d0,.int .i64 d1,.int .i64 d2,.int .i64 d3,.slice e1 m1 e3,.slice e2 m2 e4] /\ SSL u B2 (.slice va n vc) rs (fun i => (txRd s).getD i []) /\ BkR u e1 m1 e3 e2 m2 e4 us vs /\ BkR u b1 n1 b3 b2 n2 b4 ts is):=qH (fun u hu => by rw [hS] at hu;exact hu)
     have HKP : Hid (∀ u u2,S u -> Below u.heap.size u u2 -> S u2):=qH (fun u u2 hu hb => by
      rw [hS] at hu ⊢
      obtain ⟨k1,⟨k2,k3⟩,k4,k5,k6,k7⟩:=hu
      exact ⟨k1.trans (hb.mono k1.size),⟨k2.below hb,k3.below hb⟩,k4.below hb,k5.below hb,k6.below hb,k7.below hb⟩)
     have HS0 : Hid (S V.drew):=qH (HKP.out V _ (by rw [hS];exact ⟨HB4.out,⟨HX4.out,HY4.out⟩,HT4.out,HL4.out,HO4.out,HR.out.below HB4.out⟩) (Below.refl _ _).drew)
     clear hS HB4 HX4 HY4 HT4 HL4 HO4
     have hmx : Tryz.prog.follows .mixedOrders = true:=by kernel_rfl
     obtain ⟨z3,hz3⟩ : ∃ z3,z3 = eqConf2 d0 d1 d2 d3 c0 c1 c2 c3:=⟨_,rfl⟩
     have hne : ∀ W : World,(binOp .eql 39 (.agg #[.int .i64 d0,.int .i64 d1,.int .i64 d2,.int .i64 d3]) (.agg #[.int .i64 c0,.int .i64 c1,.int .i64 c2,.int .i64 c3])).run Tryz.prog W = .ok (.bool z3) W:=fun W => by rw [hz3];exact eql_conf2 d0 d1 d2 d3 c0 c1 c2 c3 W
     have HZ3:=qH hz3
     have HBT : Hid (∀ u,S u -> Calls Tryz.prog 83 #[.slice va n vc] u fun e w' => e = .returned (.string (bytesOf (txRd s))) /\ Below u.heap.size u w'):=qH (fun u hu => bytesRead_any va n vc B2 rs (txRd s) u HRL.out HNL.out (by have:=HTL.out;have:=HNL.out;omega) (HSX.out u hu).2.2.2.1 (txRd_fits s) (fun i => txF_ten s _ _ i))
     have HON : Hid (onDiskB s ⟨#[]⟩ ⟨c0,c1,c2,c3,ts,is⟩ = (decide (kk = n) && decide (bytesOf (txRd s) = s) && (z3 && (eqTmL us ts && eqImL vs is)))):=qH (by
      unfold onDiskB cleanB sameB
      rw [decide_eq_true HDD.out,HBK.out,HRK.out,HNL.out,hz3]
      simp)
     obtain ⟨bt,hbt⟩ : ∃ bt,bt = bytesOf (txRd s):=⟨_,rfl⟩
     rw [<- hbt] at HBT HON
     clear hz3 hbt
     refine HeldZ.region hmx S (by kernel_rfl) HS0.out ?_
     with_reducible refine HeldZ.value (v:=.int .i64 (kk : Int)) rfl (fun u hu => by go_simp) ?_
     simp only [pS,List.set]
     with_reducible refine HeldZ.value (v:=.slice va n vc) rfl (fun u hu => by go_simp) ?_
     simp only [pS,List.set]
     with_reducible refine HeldZ.value (v:=.int .i64 (n : Int)) rfl (fun u hu => by go_simp) ?_
     simp only [pS,List.set]
     iterate 2 (with_reducible refine HeldZ.value (v:=.bool ((kk : Int) == (n : Int))) rfl (fun u hu => by go_simp) ?_; simp only [pS, List.set])
     have HZ1 : Hid (((kk : Int) == (n : Int)) = decide (kk = n)):=qH (by
      by_cases hh : kk = n
      · simp [hh]
      · rw [decide_eq_false hh,beq_eq_false_iff_ne];omega)
     rw [HZ1.out]
     generalize decide (kk = n) = z1 at *
     cases z1 with
     | false =>
      iterate 5 (with_reducible refine HeldZ.no rfl ?_; simp only [pS, List.set])
      iterate 2 (with_reducible refine HeldZ.value (v:=.bool false) rfl (fun u hu => by go_simp) ?_; simp only [pS, List.set])
      iterate 5 (with_reducible refine HeldZ.no rfl ?_; simp only [pS, List.set])
      iterate 2 (with_reducible refine HeldZ.value (v:=.bool false) rfl (fun u hu => by go_simp) ?_; simp only [pS, List.set])
      iterate 5 (with_reducible refine HeldZ.no rfl ?_; simp only [pS, List.set])
      iterate 2 (with_reducible refine HeldZ.value (v:=.bool false) rfl (fun u hu => by go_simp) ?_; simp only [pS, List.set])
      iterate 5 (with_reducible refine HeldZ.no rfl ?_; simp only [pS, List.set])
      iterate 2 (with_reducible refine HeldZ.value (v:=.bool false) rfl (fun u hu => by go_simp) ?_; simp only [pS, List.set])
      refine HeldZ.nil ?_
      intro u hu
      have HU:=qH (HSX.out u hu).1
      clear hu
      go_wp2_with fail
      go_ret
      exact ⟨ret_bool (by rw [HON.out];rfl),HU.out⟩
     | true =>
      with_reducible refine HeldZ.value (v:=.slice va n vc) rfl (fun u hu => by go_simp) ?_
      simp only [pS,List.set]
      with_reducible refine HeldZ.call (v:=.string bt) (f:=83) (args:=#[.slice va n vc]) rfl (fun u hu => by go_simp) (fun u hu => Calls.mono (HBT.out u hu) (by rintro e u2 ⟨rfl,hb⟩;exact ⟨rfl,HKP.out u u2 hu hb⟩)) ?_
      simp only [pS,List.set]
      with_reducible refine HeldZ.value (v:=.pointer (some ⟨w.heap.size,0,none⟩)) rfl (fun u hu => by go_simp) ?_
      simp only [pS,List.set]
      with_reducible refine HeldZ.value (v:=.string s) rfl (fun u hu => by obtain ⟨_,⟨hx,hy⟩,htt,_⟩:=HSX.out u hu;have y0:=hx.cell 0 _ rfl;go_simp) ?_
      simp only [pS,List.set]
      with_reducible refine HeldZ.value (v:=.bool (bt.toList == s.toList)) rfl (fun u hu => by go_simp) ?_
      simp only [pS,List.set]
      rw [toList_eqb bt s]
      generalize decide (bt = s) = z2 at *
      iterate 2 (with_reducible refine HeldZ.value (v:=.bool z2) rfl (fun u hu => by go_simp) ?_; simp only [pS, List.set])
      cases z2 with
      | false =>
       iterate 5 (with_reducible refine HeldZ.no rfl ?_; simp only [pS, List.set])
       iterate 2 (with_reducible refine HeldZ.value (v:=.bool false) rfl (fun u hu => by go_simp) ?_; simp only [pS, List.set])
       iterate 5 (with_reducible refine HeldZ.no rfl ?_; simp only [pS, List.set])
       iterate 2 (with_reducible refine HeldZ.value (v:=.bool false) rfl (fun u hu => by go_simp) ?_; simp only [pS, List.set])
       iterate 5 (with_reducible refine HeldZ.no rfl ?_; simp only [pS, List.set])
       iterate 2 (with_reducible refine HeldZ.value (v:=.bool false) rfl (fun u hu => by go_simp) ?_; simp only [pS, List.set])
       refine HeldZ.nil ?_
       intro u hu
       have HU:=qH (HSX.out u hu).1
       clear hu
       go_wp2_with fail
       go_ret
       exact ⟨ret_bool (by rw [HON.out];rfl),HU.out⟩
      | true =>
       with_reducible refine HeldZ.value (v:=.pointer (some ⟨hq,0,none⟩)) rfl (fun u hu => by go_simp) ?_
       simp only [pS,List.set]
       with_reducible refine HeldZ.value (v:=.agg #[.int .i64 d0,.int .i64 d1,.int .i64 d2,.int .i64 d3]) rfl (fun u hu => by obtain ⟨_,⟨hx,hy⟩,htt,_⟩:=HSX.out u hu;have y0:=htt.cell 0 _ rfl;have y1:=htt.cell 1 _ rfl;have y2:=htt.cell 2 _ rfl;have y3:=htt.cell 3 _ rfl;go_simp) ?_
       simp only [pS,List.set]
       with_reducible refine HeldZ.value (v:=.pointer (some ⟨w.heap.size + 1,0,none⟩)) rfl (fun u hu => by go_simp) ?_
       simp only [pS,List.set]
       with_reducible refine HeldZ.value (v:=.agg #[.int .i64 c0,.int .i64 c1,.int .i64 c2,.int .i64 c3]) rfl (fun u hu => by obtain ⟨_,⟨hx,hy⟩,htt,_⟩:=HSX.out u hu;have y0:=hy.cell 0 _ rfl;have y1:=hy.cell 1 _ rfl;have y2:=hy.cell 2 _ rfl;have y3:=hy.cell 3 _ rfl;go_simp) ?_
       simp only [pS,List.set]
       iterate 3 (with_reducible refine HeldZ.value (v:=.bool z3) rfl (fun u hu => by go_simp) ?_; simp only [pS, List.set])
       clear hne
       cases z3 with
       | false =>
        iterate 5 (with_reducible refine HeldZ.no rfl ?_; simp only [pS, List.set])
        iterate 2 (with_reducible refine HeldZ.value (v:=.bool false) rfl (fun u hu => by go_simp) ?_; simp only [pS, List.set])
        iterate 5 (with_reducible refine HeldZ.no rfl ?_; simp only [pS, List.set])
        iterate 2 (with_reducible refine HeldZ.value (v:=.bool false) rfl (fun u hu => by go_simp) ?_; simp only [pS, List.set])
        refine HeldZ.nil ?_
        intro u hu
        have HU:=qH (HSX.out u hu).1
        clear hu
        go_wp2_with fail
        go_ret
        exact ⟨ret_bool (by rw [HON.out];rfl),HU.out⟩
       | true =>
        with_reducible refine HeldZ.value (v:=.pointer (some ⟨hq,4,none⟩)) rfl (fun u hu => by go_simp) ?_
        simp only [pS,List.set]
        with_reducible refine HeldZ.value (v:=.slice e1 m1 e3) rfl (fun u hu => by obtain ⟨_,⟨hx,hy⟩,htt,_⟩:=HSX.out u hu;have y4:=htt.cell 4 _ rfl;go_simp) ?_
        simp only [pS,List.set]
        with_reducible refine HeldZ.value (v:=.pointer (some ⟨w.heap.size + 1,4,none⟩)) rfl (fun u hu => by go_simp) ?_
        simp only [pS,List.set]
        with_reducible refine HeldZ.value (v:=.slice b1 n1 b3) rfl (fun u hu => by obtain ⟨_,⟨hx,hy⟩,htt,_⟩:=HSX.out u hu;have y4:=hy.cell 4 _ rfl;go_simp) ?_
        simp only [pS,List.set]
        with_reducible refine HeldZ.call (v:=.bool (eqTmL us ts)) (f:=84) (args:=#[.slice e1 m1 e3,.slice b1 n1 b3]) rfl (fun u hu => by go_simp) (fun u hu => Calls.mono (equalTermS_any e1 b1 m1 n1 e3 b3 us ts u (HSX.out u hu).2.2.2.2.1.t (HSX.out u hu).2.2.2.2.2.t HM.out.1 hn1) (by rintro e u2 ⟨rfl,hb⟩;exact ⟨rfl,HKP.out u u2 hu hb⟩)) ?_
        simp only [pS,List.set]
        generalize eqTmL us ts = z4 at *
        iterate 2 (with_reducible refine HeldZ.value (v:=.bool z4) rfl (fun u hu => by go_simp) ?_; simp only [pS, List.set])
        cases z4 with
        | false =>
         iterate 5 (with_reducible refine HeldZ.no rfl ?_; simp only [pS, List.set])
         iterate 2 (with_reducible refine HeldZ.value (v:=.bool false) rfl (fun u hu => by go_simp) ?_; simp only [pS, List.set])
         refine HeldZ.nil ?_
         intro u hu
         have HU:=qH (HSX.out u hu).1
         clear hu
         go_wp2_with fail
         go_ret
         exact ⟨ret_bool (by rw [HON.out];rfl),HU.out⟩
        | true =>
         with_reducible refine HeldZ.value (v:=.pointer (some ⟨hq,5,none⟩)) rfl (fun u hu => by go_simp) ?_
         simp only [pS,List.set]
         with_reducible refine HeldZ.value (v:=.slice e2 m2 e4) rfl (fun u hu => by obtain ⟨_,⟨hx,hy⟩,htt,_⟩:=HSX.out u hu;have y5:=htt.cell 5 _ rfl;go_simp) ?_
         simp only [pS,List.set]
         with_reducible refine HeldZ.value (v:=.pointer (some ⟨w.heap.size + 1,5,none⟩)) rfl (fun u hu => by go_simp) ?_
         simp only [pS,List.set]
         with_reducible refine HeldZ.value (v:=.slice b2 n2 b4) rfl (fun u hu => by obtain ⟨_,⟨hx,hy⟩,htt,_⟩:=HSX.out u hu;have y5:=hy.cell 5 _ rfl;go_simp) ?_
         simp only [pS,List.set]
         with_reducible refine HeldZ.call (v:=.bool (eqImL vs is)) (f:=85) (args:=#[.slice e2 m2 e4,.slice b2 n2 b4]) rfl (fun u hu => by go_simp) (fun u hu => Calls.mono (equalItemS_any e2 b2 m2 n2 e4 b4 vs is u (HSX.out u hu).2.2.2.2.1.i (HSX.out u hu).2.2.2.2.2.i HM.out.2 hn2) (by rintro e u2 ⟨rfl,hb⟩;exact ⟨rfl,HKP.out u u2 hu hb⟩)) ?_
         simp only [pS,List.set]
         iterate 2 (with_reducible refine HeldZ.value (v:=.bool (eqImL vs is)) rfl (fun u hu => by go_simp) ?_; simp only [pS, List.set])
         refine HeldZ.nil ?_
         intro u hu
         have HU:=qH (HSX.out u hu).1
         clear hu
         go_wp2_with fail
         go_ret
         exact ⟨ret_bool (by rw [HON.out];simp),HU.out⟩
   · have ht1:=empty_no ht
     have ht2:=toList_ne ht
     have HF : Hid (onDiskB s t ⟨c0,c1,c2,c3,ts,is⟩ = false):=qH (by unfold onDiskB;rw [decide_eq_false ht];simp)
     clear ht
     go_wp2_with fail
     go_ret
     exact ⟨ret_bool HF.out.symm,HB1.out⟩
 · rw [decide_eq_false hd]
   have HF : Hid (onDiskB s t ⟨c0,c1,c2,c3,ts,is⟩ = false):=qH (by unfold onDiskB;rw [decide_eq_false hd];rfl)
   clear hd
   go_wp2_with fail
   go_ret
   exact ⟨ret_bool HF.out.symm,HB1.out⟩
theorem specClean_any (s : ByteArray) (w : World) (hs : s.size <= maxLen) :
 Calls Tryz.prog 45 #[.string s] w fun e w' => e = .returned (.bool (cleanB s)) /\ Below w.heap.size w w':=by
 have HTL:=qH (txRd_len s)
 have HTR:=qH (txRd_right s)
 have HSZS:=qH hs
 have HCB : Hid (cleanB s = (decide ((rpS bk0 (txRd s)).2 = (txRd s).length) && decide (bytesOf (txRd s) = s))):=qH rfl
 obtain ⟨W,hW⟩ : ∃ W,W = w.alloc (.cells #[.int .i64 0,.int .i64 0,.int .i64 0,.int .i64 0,.slice none 0 0,.slice none 0 0] 43):=⟨_,rfl⟩
 have HB0 : Hid (Below w.heap.size w W):=qH (by rw [hW];exact (Below.refl _ _).alloc (Nat.le_refl _) _)
 have HX0 : Hid (BoxC W w.heap.size [.int .i64 0,.int .i64 0,.int .i64 0,.int .i64 0,.slice none 0 0,.slice none 0 0]):=qH (by rw [hW];exact BoxC.made w #[.int .i64 0,.int .i64 0,.int .i64 0,.int .i64 0,.slice none 0 0,.slice none 0 0] 43)
 have HWS : Hid (w.heap.size + 1 = W.heap.size):=qH (by rw [hW,World.size_alloc])
 go_enter Tryz.func45,Tryz.ntmps45
 go_wp2_with fail
 rw [<- hW]
 clear hW
 refine (specTxRead_any s W hs).mono ?_
 rintro e w1 ⟨va,n,vc,rs,rfl,hn,hS,hm,hb⟩
 obtain ⟨hl,hSS,hten⟩:=hS.info hm
 have hnl : (txRd s).length = n:=(hn.trans hl).symm
 have HNL:=qH hnl
 have HRL : Hid (rs.length = n):=qH hn.symm
 have HSS:=qH hSS
 have HB1:=qH (HB0.out.trans (hb.mono HB0.out.size))
 have HX1:=qH (HX0.out.below hb)
 have HS1:=qH hb.size
 have hn8 : n <= 8001:=by rw [<- HNL.out];exact HTL.out
 clear hS hm hb hSS hl hnl hten hn HB0 HX0 hs
 go_wp2_with fail
 go_loopw [5] (fun i wr => ∃ (k : Nat) (b : Bk) (x1 : Option Addr) (m1 x3 : Nat) (x2 : Option Addr) (m2 x4 : Nat),k <= n /\ i = .int .i64 k /\ Hid (BoxC wr w.heap.size [.int .i64 b.c0,.int .i64 b.c1,.int .i64 b.c2,.int .i64 b.c3,.slice x1 m1 x3,.slice x2 m2 x4]) /\ Hid (BkO wr W.heap.size x1 m1 x3 x2 m2 x4 b.ts b.is) /\ Hid (bookB b = true) /\ Hid ((rpS bk0 (txRd s)).2 = (rpS b ((txRd s).drop k)).2 + k) /\ Hid (Below w.heap.size w wr) /\ Hid (W.heap.size <= wr.heap.size) /\ Hid (SSL wr W.heap.size (.slice va n vc) rs (fun i => (txRd s).getD i []))) (fun i _ => n - (intOf i).toNat)
 case atStart => exact ⟨0,bk0,none,0,0,none,0,0,Nat.zero_le _,rfl,HX1,qH ⟨World.ownsRow_nil _ _ _ _,World.ownsRow_nil _ _ _ _⟩,qH bookB_bk0,qH (by rw [List.drop_zero];rfl),HB1,HS1,HSS⟩
 case round =>
  obtain ⟨k,b,x1,m1,x3,x2,m2,x4,hk,rfl,HX,HO,HBR,HRP,HB,HSZ,HSL⟩:=hrel
  clear HX1 HB1 HS1 HSS
  by_cases hlt : k < n
  · have hlt2 : k < rs.length:=by rw [HRL.out];exact hlt
    have hs2:=HSL.out
    rw [<- HRL.out] at hs2
    obtain ⟨g,o,rfl,hg,t0,hdd⟩:=hs2.at hlt2
    clear hs2
    have hin : 0 <= (k : Int) /\ (k : Int) < (n : Int):=by omega
    have hlk : k < (txRd s).length:=by rw [HNL.out];exact hlt
    have HLM : Hid (LR ((txRd s).getD k [])):=qH (HTR.out _ (by rw [show (txRd s).getD k [] = (txRd s)[k] by simp [List.getD,List.getElem?_eq_getElem hlk]];exact List.getElem_mem hlk))
    have HDP : Hid ((txRd s).drop k = (txRd s).getD k [] :: (txRd s).drop (k + 1)):=qH (by
     rw [show (txRd s).getD k [] = (txRd s)[k]'hlk by simp [List.getD,List.getElem?_eq_getElem hlk]]
     exact List.drop_eq_getElem_cons hlk)
    have HDD:=qH hdd
    generalize (txRd s).getD k [] = l at *
    generalize (rs.getD k rwD).a = ra at *
    generalize (rs.getD k rwD).n = rn at *
    generalize (rs.getD k rwD).c = rc at *
    have hrl : l.length = rn:=hdd.len
    clear hdd hlk
    go_upto_region 6 with fail
    obtain ⟨r,hrr⟩ : ∃ r,doAllS b l = r:=⟨_,rfl⟩
    have HRR:=qH hrr
    have HRT : Hid (r.2 = 0 -> bookB r.1 = true):=qH (by rw [<- hrr];exact fun h0 => doAllS_right l HBR.out HLM.out.2.2 h0)
    have HRG : Hid (r.2 = 0 -> (rpS b ((txRd s).drop k)).2 = (rpS r.1 ((txRd s).drop (k + 1))).2 + 1):=qH (by rw [<- hrr,HDP.out];exact fun h0 => by rw [rpS_go h0])
    have HRN : Hid (¬ r.2 = 0 -> (rpS b ((txRd s).drop k)).2 = 0):=qH (by rw [<- hrr,HDP.out];exact fun h0 => by rw [rpS_no h0])
    have HSS : Hid (∀ u,Below wr.heap.size wr u -> (BoxC u w.heap.size [.int .i64 b.c0,.int .i64 b.c1,.int .i64 b.c2,.int .i64 b.c3,.slice x1 m1 x3,.slice x2 m2 x4] /\ u.cell? ⟨g,o + k,none⟩ = some (.slice ra rn rc))):=qH (fun u hu => ⟨HX.out.below hu,(hu.cell (p:=⟨g,o + k,none⟩) hg).trans t0⟩)
    have HB0:=qH (Below.refl wr.heap.size wr)
    have hmx : Tryz.prog.follows .mixedOrders = true:=by kernel_rfl
    have hl1 : 1 <= rn:=by rw [<- hrl];exact HLM.out.1
    have hln : rn <= 10:=by rw [<- hrl];exact HLM.out.2.1
    have HDQ:=qH (fun t (ht : t < rn) => HLM.out.2.2 t (by omega))
    clear hrr t0
    go_cut [6,7] from 11 to 28 (fun v v7 u => ∃ nb d0 d1 d2 d3 e1 p1 e3 e2 p2 e4,v = .pointer (some ⟨nb,0,none⟩) /\ v7 = .bool (decide (r.2 = 0)) /\ BoxC u nb [.int .i64 d0,.int .i64 d1,.int .i64 d2,.int .i64 d3,.slice e1 p1 e3,.slice e2 p2 e4] /\ (r.2 = 0 -> BkO u wr.heap.size e1 p1 e3 e2 p2 e4 r.1.ts r.1.is /\ d0 = r.1.c0 /\ d1 = r.1.c1 /\ d2 = r.1.c2 /\ d3 = r.1.c3) /\ wr.heap.size <= nb /\ Below wr.heap.size wr u)
    case first =>
     refine TillZ.region (t:=11) hmx (fun u => BoxC u w.heap.size [.int .i64 b.c0,.int .i64 b.c1,.int .i64 b.c2,.int .i64 b.c3,.slice x1 m1 x3,.slice x2 m2 x4] /\ u.cell? ⟨g,o + k,none⟩ = some (.slice ra rn rc)) ?_
     have HU0:=qH (HB0.out.drew)
     have hS0:=HSS.out _ HU0.out
     refine TillZ.take4 (i:=0) (v:=.agg #[.int .i64 b.c0,.int .i64 b.c1,.int .i64 b.c2,.int .i64 b.c3,.slice x1 m1 x3,.slice x2 m2 x4]) rfl rfl rfl (by kernel_rfl) hS0 (fun u hu => by have z0:=hu.1.cell 0 _ rfl;have z1:=hu.1.cell 1 _ rfl;have z2:=hu.1.cell 2 _ rfl;have z3:=hu.1.cell 3 _ rfl;have z4:=hu.1.cell 4 _ rfl;have z5:=hu.1.cell 5 _ rfl;go_simp) ?_
     simp only [pS,List.set,zT,zZ]
     refine TillZ.take4 (i:=1) (v:=.slice (some ⟨g,o,none⟩) n vc) rfl rfl rfl (by kernel_rfl) hS0 (fun u hu => by go_simp) ?_
     simp only [pS,List.set,zT,zZ,zU]
     refine TillZ.take4 (i:=2) (v:=.int .i64 (k : Int)) rfl rfl rfl (by kernel_rfl) hS0 (fun u hu => by go_simp) ?_
     simp only [pS,List.set,zT,zZ,zU]
     refine TillZ.take4 (i:=3) (v:=.pointer (some ⟨g,o + k,none⟩)) rfl rfl rfl (by kernel_rfl) hS0 (fun u hu => by go_simp) ?_
     simp only [pS,List.set,zT,zZ,zU]
     refine TillZ.take4 (i:=4) (v:=.slice ra rn rc) rfl rfl rfl (by kernel_rfl) hS0 (fun u hu => by obtain ⟨_,y0⟩:=hu;go_simp) ?_
     simp only [pS,List.set,zT,zZ,zU]
     generalize hu0 : wr.drew = u0 at *
     clear hu0
     refine TillZ.two (i:=5) (j:=9) (by kernel_rfl) ?_ ?_
     · skip
       refine TillZ.callz (i:=5) (f:=75) (args:=#[.agg #[.int .i64 b.c0,.int .i64 b.c1,.int .i64 b.c2,.int .i64 b.c3,.slice x1 m1 x3,.slice x2 m2 x4],.slice ra rn rc]) rfl rfl rfl (by go_simp) ?_
       refine Calls.mono (l07All_any b x1 x2 m1 m2 x3 x4 W.heap.size ra rn rc l u0 (HO.out.below HU0.out) (Nat.le_trans HSZ.out HU0.out.size) HBR.out (SR.below HDD.out HU0.out) hl1 hln HDQ.out) ?_
       rintro e ua hnb
       rw [HRR.out] at hnb
       obtain ⟨d0,d1,d2,d3,e1,p1,e3,e2,p2,e4,rfl,ho,hb⟩:=hnb
       have HUua:=qH (HU0.out.trans (hb.mono HU0.out.size))
       refine ⟨_,rfl,HSS.out _ HUua.out,?_⟩
       simp only [pS,List.set,zT,zZ,zU]
       refine TillZ.take4 (i:=6) (v:=.tuple #[.agg #[.int .i64 d0,.int .i64 d1,.int .i64 d2,.int .i64 d3,.slice e1 p1 e3,.slice e2 p2 e4],.bool (decide (r.2 = 0))]) rfl rfl rfl (by kernel_rfl) (HSS.out _ HUua.out) (fun u hu => by go_simp) ?_
       simp only [pS,List.set,zT,zZ,zU]
       refine TillZ.take4 (i:=7) (v:=.agg #[.int .i64 d0,.int .i64 d1,.int .i64 d2,.int .i64 d3,.slice e1 p1 e3,.slice e2 p2 e4]) rfl rfl rfl (by kernel_rfl) (HSS.out _ HUua.out) (fun u hu => by go_simp) ?_
       simp only [pS,List.set,zT,zZ,zU]
       refine TillZ.take4 (i:=8) (v:=.bool (decide (r.2 = 0))) rfl rfl rfl (by kernel_rfl) (HSS.out _ HUua.out) (fun u hu => by go_simp) ?_
       simp only [pS,List.set,zT,zZ,zU]
       refine TillZ.one (i:=9) (by kernel_rfl) ?_
       refine TillZ.opz (i:=9) (v:=.pointer (some ⟨ua.heap.size,0,none⟩)) (w':=ua.alloc (.cells #[.int .i64 0,.int .i64 0,.int .i64 0,.int .i64 0,.slice none 0 0,.slice none 0 0] 43)) rfl rfl rfl (by go_simp) (HSS.out _ (HUua.out.alloc HUua.out.size _)) ?_
       simp only [pS,List.set,zT,zZ,zU]
       have HUub:=qH (HUua.out.alloc HUua.out.size (.cells #[.int .i64 0,.int .i64 0,.int .i64 0,.int .i64 0,.slice none 0 0,.slice none 0 0] 43))
       have HXub:=qH (BoxC.made ua #[.int .i64 0,.int .i64 0,.int .i64 0,.int .i64 0,.slice none 0 0,.slice none 0 0] 43)
       have HNBub:=qH HUua.out.size
       have HAUB:=qH ((Below.refl ua.heap.size ua).alloc (Nat.le_refl _) (.cells #[.int .i64 0,.int .i64 0,.int .i64 0,.int .i64 0,.slice none 0 0,.slice none 0 0] 43))
       generalize hub : ua.alloc (.cells #[.int .i64 0,.int .i64 0,.int .i64 0,.int .i64 0,.slice none 0 0,.slice none 0 0] 43) = ub at *
       clear hub
       have z0:=HXub.out.cell 0 _ rfl
       have f0:=HXub.out.free 0
       have z1:=HXub.out.cell 1 _ rfl
       have f1:=HXub.out.free 1
       have z2:=HXub.out.cell 2 _ rfl
       have f2:=HXub.out.free 2
       have z3:=HXub.out.cell 3 _ rfl
       have f3:=HXub.out.free 3
       have z4:=HXub.out.cell 4 _ rfl
       have f4:=HXub.out.free 4
       have z5:=HXub.out.cell 5 _ rfl
       have f5:=HXub.out.free 5
       obtain ⟨hY,hG⟩:=box_put6 HXub.out (.int .i64 d0) (.int .i64 d1) (.int .i64 d2) (.int .i64 d3) (.slice e1 p1 e3) (.slice e2 p2 e4)
       refine TillZ.one (i:=10) (by kernel_rfl) ?_
       refine TillZ.opz_skip (i:=10) (w':=(((((ub.setCell ⟨ua.heap.size,0,none⟩ (.int .i64 d0)).setCell ⟨ua.heap.size,1,none⟩ (.int .i64 d1)).setCell ⟨ua.heap.size,2,none⟩ (.int .i64 d2)).setCell ⟨ua.heap.size,3,none⟩ (.int .i64 d3)).setCell ⟨ua.heap.size,4,none⟩ (.slice e1 p1 e3)).setCell ⟨ua.heap.size,5,none⟩ (.slice e2 p2 e4)) rfl rfl rfl (by go_simp) (HSS.out _ (grown_below HUub.out hG HNBub.out HUub.out.size)) ?_
       simp only [pN,zT,zZ,zU]
       refine TillZ.hand (v:=.bool (decide (r.2 = 0))) (by kernel_rfl) rfl rfl (by go_simp) ?_
       simp only [pS,List.set,zT,zZ,zU]
       refine TillZ.any_done (by kernel_rfl) ?_ _
       clear z0 f0 z1 f1 z2 f2 z3 f3 z4 f4 z5 f5
       generalize (((((ub.setCell ⟨ua.heap.size,0,none⟩ (.int .i64 d0)).setCell ⟨ua.heap.size,1,none⟩ (.int .i64 d1)).setCell ⟨ua.heap.size,2,none⟩ (.int .i64 d2)).setCell ⟨ua.heap.size,3,none⟩ (.int .i64 d3)).setCell ⟨ua.heap.size,4,none⟩ (.slice e1 p1 e3)).setCell ⟨ua.heap.size,5,none⟩ (.slice e2 p2 e4) = Y at *
       go_wp2_with fail
       go_meet
       case rel => exact ⟨ua.heap.size,d0,d1,d2,d3,e1,p1,e3,e2,p2,e4,rfl,rfl,hY,fun h0 => by have ⟨hoo,hee⟩:=ho h0;exact ⟨⟨own_apartP (own_below (own_mono hoo.t HU0.out.size) HAUB.out) hG (fun q hq => by have:=(hoo.t.lt q hq).2;omega),own_apartP (own_below (own_mono hoo.i HU0.out.size) HAUB.out) hG (fun q hq => by have:=(hoo.i.lt q hq).2;omega)⟩,hee⟩,HNBub.out,grown_below HUub.out hG HNBub.out HUub.out.size⟩
     · skip
       refine TillZ.opz (i:=9) (v:=.pointer (some ⟨u0.heap.size,0,none⟩)) (w':=u0.alloc (.cells #[.int .i64 0,.int .i64 0,.int .i64 0,.int .i64 0,.slice none 0 0,.slice none 0 0] 43)) rfl rfl rfl (by go_simp) (HSS.out _ (HU0.out.alloc HU0.out.size _)) ?_
       simp only [pS,List.set,zT,zZ,zU]
       have HUub:=qH (HU0.out.alloc HU0.out.size (.cells #[.int .i64 0,.int .i64 0,.int .i64 0,.int .i64 0,.slice none 0 0,.slice none 0 0] 43))
       have HXub:=qH (BoxC.made u0 #[.int .i64 0,.int .i64 0,.int .i64 0,.int .i64 0,.slice none 0 0,.slice none 0 0] 43)
       have HNBub:=qH HU0.out.size
       generalize hub : u0.alloc (.cells #[.int .i64 0,.int .i64 0,.int .i64 0,.int .i64 0,.slice none 0 0,.slice none 0 0] 43) = ub at *
       clear hub
       refine TillZ.one (i:=5) (by kernel_rfl) ?_
       refine TillZ.callz (i:=5) (f:=75) (args:=#[.agg #[.int .i64 b.c0,.int .i64 b.c1,.int .i64 b.c2,.int .i64 b.c3,.slice x1 m1 x3,.slice x2 m2 x4],.slice ra rn rc]) rfl rfl rfl (by go_simp) ?_
       refine Calls.mono (l07All_any b x1 x2 m1 m2 x3 x4 W.heap.size ra rn rc l ub (HO.out.below HUub.out) (Nat.le_trans HSZ.out HUub.out.size) HBR.out (SR.below HDD.out HUub.out) hl1 hln HDQ.out) ?_
       rintro e ua hnb
       rw [HRR.out] at hnb
       obtain ⟨d0,d1,d2,d3,e1,p1,e3,e2,p2,e4,rfl,ho,hb⟩:=hnb
       have HUua:=qH (HUub.out.trans (hb.mono HUub.out.size))
       refine ⟨_,rfl,HSS.out _ HUua.out,?_⟩
       simp only [pS,List.set,zT,zZ,zU]
       refine TillZ.take4 (i:=6) (v:=.tuple #[.agg #[.int .i64 d0,.int .i64 d1,.int .i64 d2,.int .i64 d3,.slice e1 p1 e3,.slice e2 p2 e4],.bool (decide (r.2 = 0))]) rfl rfl rfl (by kernel_rfl) (HSS.out _ HUua.out) (fun u hu => by go_simp) ?_
       simp only [pS,List.set,zT,zZ,zU]
       refine TillZ.take4 (i:=7) (v:=.agg #[.int .i64 d0,.int .i64 d1,.int .i64 d2,.int .i64 d3,.slice e1 p1 e3,.slice e2 p2 e4]) rfl rfl rfl (by kernel_rfl) (HSS.out _ HUua.out) (fun u hu => by go_simp) ?_
       simp only [pS,List.set,zT,zZ,zU]
       refine TillZ.take4 (i:=8) (v:=.bool (decide (r.2 = 0))) rfl rfl rfl (by kernel_rfl) (HSS.out _ HUua.out) (fun u hu => by go_simp) ?_
       simp only [pS,List.set,zT,zZ,zU]
       have HX:=qH (HXub.out.below hb)
       have z0:=HX.out.cell 0 _ rfl
       have f0:=HX.out.free 0
       have z1:=HX.out.cell 1 _ rfl
       have f1:=HX.out.free 1
       have z2:=HX.out.cell 2 _ rfl
       have f2:=HX.out.free 2
       have z3:=HX.out.cell 3 _ rfl
       have f3:=HX.out.free 3
       have z4:=HX.out.cell 4 _ rfl
       have f4:=HX.out.free 4
       have z5:=HX.out.cell 5 _ rfl
       have f5:=HX.out.free 5
       obtain ⟨hY,hG⟩:=box_put6 HX.out (.int .i64 d0) (.int .i64 d1) (.int .i64 d2) (.int .i64 d3) (.slice e1 p1 e3) (.slice e2 p2 e4)
       refine TillZ.one (i:=10) (by kernel_rfl) ?_
       refine TillZ.opz_skip (i:=10) (w':=(((((ua.setCell ⟨u0.heap.size,0,none⟩ (.int .i64 d0)).setCell ⟨u0.heap.size,1,none⟩ (.int .i64 d1)).setCell ⟨u0.heap.size,2,none⟩ (.int .i64 d2)).setCell ⟨u0.heap.size,3,none⟩ (.int .i64 d3)).setCell ⟨u0.heap.size,4,none⟩ (.slice e1 p1 e3)).setCell ⟨u0.heap.size,5,none⟩ (.slice e2 p2 e4)) rfl rfl rfl (by go_simp) (HSS.out _ (grown_below HUua.out hG HNBub.out HUua.out.size)) ?_
       simp only [pN,zT,zZ,zU]
       refine TillZ.hand (v:=.bool (decide (r.2 = 0))) (by kernel_rfl) rfl rfl (by go_simp) ?_
       simp only [pS,List.set,zT,zZ,zU]
       refine TillZ.any_done (by kernel_rfl) ?_ _
       clear z0 f0 z1 f1 z2 f2 z3 f3 z4 f4 z5 f5
       generalize (((((ua.setCell ⟨u0.heap.size,0,none⟩ (.int .i64 d0)).setCell ⟨u0.heap.size,1,none⟩ (.int .i64 d1)).setCell ⟨u0.heap.size,2,none⟩ (.int .i64 d2)).setCell ⟨u0.heap.size,3,none⟩ (.int .i64 d3)).setCell ⟨u0.heap.size,4,none⟩ (.slice e1 p1 e3)).setCell ⟨u0.heap.size,5,none⟩ (.slice e2 p2 e4) = Y at *
       go_wp2_with fail
       go_meet
       case rel => exact ⟨u0.heap.size,d0,d1,d2,d3,e1,p1,e3,e2,p2,e4,rfl,rfl,hY,fun h0 => by have ⟨hoo,hee⟩:=ho h0;exact ⟨⟨own_apartP (own_mono hoo.t HUub.out.size) hG (fun q hq => by have:=(hoo.t.lt q hq).1;have:=HXub.out.lt;omega),own_apartP (own_mono hoo.i HUub.out.size) hG (fun q hq => by have:=(hoo.i.lt q hq).1;have:=HXub.out.lt;omega)⟩,hee⟩,HNBub.out,grown_below HUua.out hG HNBub.out HUua.out.size⟩
    case rest =>
     obtain ⟨nb,d0,d1,d2,d3,e1,p1,e3,e2,p2,e4,rfl,rfl,hXB,hOB,hnb,hU⟩:=hcut
     have HXB:=qH hXB
     have HU:=qH hU
     have HOB:=qH hOB
     have HX2:=qH (HX.out.below hU)
     have HO2:=qH (HO.out.below hU)
     have HB2:=qH (HB.out.trans (hU.mono HB.out.size))
     have HS2:=qH (Nat.le_trans HSZ.out hU.size)
     have HL2:=qH (HSL.out.below hU)
     clear hXB hU hOB hnb HSS HB0 HX HO HB HRR HSL HDQ
     obtain ⟨b3,cd⟩:=r
     dsimp only at HRT HRG HRN HOB ⊢
     by_cases hc : cd = 0
     · subst hc
       obtain ⟨ho,rfl,rfl,rfl,rfl⟩:=HOB.out rfl
       have HOX:=qH (ho.mono HSZ.out)
       have v0:=(HXB.out).cell 0 _ rfl
       have v1:=(HXB.out).cell 1 _ rfl
       have v2:=(HXB.out).cell 2 _ rfl
       have v3:=(HXB.out).cell 3 _ rfl
       have v4:=(HXB.out).cell 4 _ rfl
       have v5:=(HXB.out).cell 5 _ rfl
       have hXV:=HX2.out
       have z0:=(hXV).cell 0 _ rfl
       have z1:=(hXV).cell 1 _ rfl
       have z2:=(hXV).cell 2 _ rfl
       have z3:=(hXV).cell 3 _ rfl
       have z4:=(hXV).cell 4 _ rfl
       have z5:=(hXV).cell 5 _ rfl
       have f0:=(hXV).free 0
       have f1:=(hXV).free 1
       have f2:=(hXV).free 2
       have f3:=(hXV).free 3
       have f4:=(hXV).free 4
       have f5:=(hXV).free 5
       obtain ⟨hY,hG⟩:=box_put6 hXV (.int .i64 b3.c0) (.int .i64 b3.c1) (.int .i64 b3.c2) (.int .i64 b3.c3) (.slice e1 p1 e3) (.slice e2 p2 e4)
       obtain ⟨Y,hYd⟩ : ∃ Y,Y = (((((wc.setCell ⟨w.heap.size,0,none⟩ (.int .i64 b3.c0)).setCell ⟨w.heap.size,1,none⟩ (.int .i64 b3.c1)).setCell ⟨w.heap.size,2,none⟩ (.int .i64 b3.c2)).setCell ⟨w.heap.size,3,none⟩ (.int .i64 b3.c3)).setCell ⟨w.heap.size,4,none⟩ (.slice e1 p1 e3)).setCell ⟨w.heap.size,5,none⟩ (.slice e2 p2 e4):=⟨_,rfl⟩
       rw [<- hYd] at hY hG
       have HYX:=qH hY
       have HYO:=qH (bkO_far HOX.out hG (by have:=HWS.out;omega))
       have HYB:=qH (grown_below HB2.out hG (by omega) HB2.out.size)
       have HYS : Hid (W.heap.size <= Y.heap.size):=qH (Nat.le_trans HS2.out hG.size)
       have HYL:=qH (HL2.out.far hG (by have:=HWS.out;omega))
       have HDN : Hid ((rpS bk0 (txRd s)).2 = (rpS b3 ((txRd s).drop (k + 1))).2 + (k + 1)):=qH (by have h1:=HRP.out;have h2:=HRG.out rfl;omega)
       have HBN:=qH (HRT.out rfl)
       have HYD:=qH hYd
       have hwk : IntKind.i64.wrap ((k : Int) + 1) = (k : Int) + 1:=IntWalk.i64_in _ (by omega)
       rw [show decide ((0 : Int) = 0) = true from rfl]
       clear hXV hY hG hYd HX2 HO2 HB2 HS2 HRT HRG HRN HOB HXB HL2 ho HOX HSZ
       go_wp2_with fail
       rw [<- HYD.out]
       clear v0 v1 v2 v3 v4 v5 z0 z1 z2 z3 z4 z5 f0 f1 f2 f3 f4 f5
       go_roundw
       case rel => exact ⟨k + 1,b3,e1,p1,e3,e2,p2,e4,by omega,by go_num,HYX,HYO,HBN,HDN,HYB,HYS,HYL⟩
       case measure => simp [intOf];omega
     · rw [decide_eq_false hc]
       have HRE : Hid (cleanB s = false):=qH (by
        have h1:=HRP.out
        rw [HRN.out hc] at h1
        have h2:=HNL.out
        rw [HCB.out,decide_eq_false (show ¬ (rpS bk0 (txRd s)).2 = (txRd s).length from by omega)]
        rfl)
       clear hc
       go_wp2_with fail
       go_ret
       exact ⟨ret_bool HRE.out.symm,HB2.out⟩
  · obtain rfl : k = n:=by omega
    have HRE : Hid (cleanB s = decide (bytesOf (txRd s) = s)):=qH (by
     have h1:=HRP.out
     rw [List.drop_eq_nil_of_le (by rw [HNL.out];exact Nat.le_refl _)] at h1
     have h2:=HNL.out
     rw [HCB.out,decide_eq_true (show (rpS bk0 (txRd s)).2 = (txRd s).length from by rw [h1,h2];exact Nat.zero_add _)]
     exact Bool.true_and _)
    go_wp2_with fail
    refine (whole_any s wr HSZS.out).mono ?_
    rintro e w5 ⟨rfl,hb⟩
    have HB5:=qH (HB.out.trans (hb.mono HB.out.size))
    clear hb
    go_wp2_with fail
    go_ret
    exact ⟨ret_bool (by rw [HRE.out];exact toList_eqb _ _),HB5.out⟩
end Go.Proofs.YthkbcjnbmciolaaGreatDoor
namespace Go.Proofs.YthkbcjnbmciolaaGreatDoor
open Go.RowKit Go.PlainAid G MGF IRow MNum MJoin
set_option linter.unusedVariables false
def atE : List Ev -> Int -> Int -> Int
 | [],_,_ => -1
 | e :: r,x,i => if e.x = x then i else atE r x (i + 1)
theorem atE_iff (x : Int) : ∀ (l : List Ev) (i : Int),0 <= i -> (0 <= atE l x i ↔ x ∈ l.map Ev.x)
 | [],i,h => by simp [atE]
 | e :: r,i,h => by
  unfold atE
  by_cases hx : e.x = x
  · rw [if_pos hx,List.map_cons,hx]
    simp [h]
  · rw [if_neg hx,atE_iff x r (i + 1) (by omega),List.map_cons,List.mem_cons]
    constructor
    · exact fun h => .inr h
    · rintro (h | h)
      · exact absurd h.symm hx
      · exact h
def okF (c0 c1 c2 : Int) (l : List Ev) (j : Nat) : Bool:=okE c0 c1 c2 (l.getD j evD) && (decide ((l.getD j evD).t.size = (l.getD 0 evD).t.size) && !decide (0 <= atE (l.take j) (l.getD j evD).x 0))
theorem getD_map {l : List Ev} {i : Nat} : (l.map shOf).getD i (0,ByteArray.empty) = shOf (l.getD i evD):=by
 rcases Nat.lt_or_ge i l.length with h | h
 · simp [List.getD,List.getElem?_map,List.getElem?_eq_getElem h]
 · simp [List.getD,List.getElem?_eq_none h]
   rfl
theorem map_fst (l : List Ev) : (l.map shOf).map Prod.fst = l.map Ev.x:=by
 rw [List.map_map]
 rfl
theorem getD_get {l : List Ev} {i : Nat} (h : i < l.length) : l.getD i evD = l[i]:=by simp [List.getD,List.getElem?_eq_getElem h]
theorem nodup_of_take {l : List Ev} (h : ∀ j,j < l.length -> ¬ (l.getD j evD).x ∈ (l.take j).map Ev.x) : (l.map Ev.x).Nodup:=by
 have key : ∀ k,k <= l.length -> ((l.take k).map Ev.x).Nodup:=by
  intro k
  induction k with
  | zero => intro _;simp
  | succ k ih =>
   intro hk
   have hk2 : k < l.length:=by omega
   rw [show l.take (k + 1) = l.take k ++ [l[k]] from (List.take_append_getElem hk2).symm,List.map_append,List.nodup_append]
   refine ⟨ih (by omega),by simp,?_⟩
   intro a ha b hb
   simp only [List.map_cons,List.map_nil,List.mem_singleton] at hb
   subst hb
   intro e
   subst e
   exact h k hk2 (by rw [getD_get hk2];exact ha)
 have:=key l.length (Nat.le_refl _)
 rwa [List.take_length] at this
theorem fit_no {c0 c1 c2 : Int} {l : List Ev} {j : Nat} (hj : j < l.length) (h : okF c0 c1 c2 l j = false) : fitB c0 c1 c2 l = false:=by
 unfold okF at h
 cases h1 : okE c0 c1 c2 (l.getD j evD)
 · exact fitB_bad hj h1
 · rw [h1,Bool.true_and] at h
   have hp : ¬ partsCode (l.map shOf) = 0:=by
    intro hp
    obtain ⟨_,h2,h3⟩:=partsCode_zero hp
    have e1 : (l.getD j evD).t.size = (l.getD 0 evD).t.size:=by
     unfold sizeB at h3
     rw [List.all_eq_true] at h3
     have:=h3 (shOf l[j]) (List.mem_map.2 ⟨_,List.getElem_mem hj,rfl⟩)
     rw [decide_eq_true_eq,getD_map] at this
     rw [getD_get hj]
     exact this
    have e2 : ¬ 0 <= atE (l.take j) (l.getD j evD).x 0:=by
     rw [atE_iff _ _ _ (Int.le_refl 0)]
     unfold placeB at h2
     rw [decide_eq_true_eq,map_fst] at h2
     intro hm
     have h4 : l.map Ev.x = (l.take j).map Ev.x ++ (l.drop j).map Ev.x:=by rw [<- List.map_append,List.take_append_drop]
     rw [h4,List.nodup_append] at h2
     refine h2.2.2 _ hm _ ?_ rfl
     rw [getD_get hj]
     exact List.mem_map.2 ⟨l[j],by rw [List.drop_eq_getElem_cons hj];exact List.mem_cons_self ..,rfl⟩
    rw [decide_eq_true e1,decide_eq_false e2] at h
    cases h
   unfold fitB
   rw [decide_eq_false (show ¬ l.length = 0 by omega),decide_eq_false hp]
   simp
theorem fit_yes {c0 c1 c2 : Int} {l : List Ev} (h : ∀ j,j < l.length -> okF c0 c1 c2 l j = true) : fitB c0 c1 c2 l = (decide (l.length = 0) || decide ((l.length : Int) < c1)):=by
 by_cases h0 : l.length = 0
 · rw [List.eq_nil_of_length_eq_zero h0];rfl
 · by_cases h1 : (l.length : Int) < c1
   · have hok : ∀ j,j < l.length -> okE c0 c1 c2 (l.getD j evD) = true:=fun j hj => by
      have:=h j hj
      unfold okF at this
      rw [Bool.and_eq_true] at this
      exact this.1
     have hbd : ∀ j,j < l.length -> (1 <= c1 /\ c1 <= 10) /\ (1 <= (l.getD j evD).x /\ (l.getD j evD).x <= 20) /\ (1 <= (l.getD j evD).t.size /\ (l.getD j evD).t.size <= 16):=fun j hj => by
      have:=hok j hj
      unfold okE at this
      rw [Bool.and_eq_true,decide_eq_true_eq] at this
      have hb:=envB_bounds this.1
      omega
     have h10 : l.length <= 10:=by have:=(hbd 0 (by omega)).1;omega
     have hpc : partsCode (l.map shOf) = 0:=by
      refine partsCode_ok (by rw [List.length_map];omega) ?_ ?_ ?_
      · unfold partsB
        rw [decide_eq_true (by rw [List.length_map];omega),Bool.true_and]
        refine all_ofS (fun t ht => ?_)
        rw [List.length_map] at ht
        have hb:=hbd t ht
        rw [show (l.map shOf).getD t shD = shOf (l.getD t evD) from getD_map]
        unfold okPart okX
        rw [decide_eq_true (show 1 <= (shOf (l.getD t evD)).1 /\ (shOf (l.getD t evD)).1 <= 255 from ⟨hb.2.1.1,by have:=hb.2.1.2;show (l.getD t evD).x <= 255;omega⟩),decide_eq_true (show 1 <= (shOf (l.getD t evD)).2.size /\ (shOf (l.getD t evD)).2.size <= 16 from hb.2.2)]
        rfl
      · unfold placeB
        rw [decide_eq_true_eq,map_fst]
        refine nodup_of_take (fun j hj hm => ?_)
        have:=h j hj
        unfold okF at this
        rw [Bool.and_eq_true,Bool.and_eq_true,decide_eq_true ((atE_iff _ _ _ (Int.le_refl 0)).2 hm)] at this
        exact absurd this.2.2 (by decide)
      · unfold sizeB
        rw [List.all_eq_true]
        intro p hp
        obtain ⟨e,he,rfl⟩:=List.mem_map.1 hp
        obtain ⟨i,hi,rfl⟩:=List.mem_iff_getElem.1 he
        have:=h i hi
        unfold okF at this
        rw [Bool.and_eq_true,Bool.and_eq_true,decide_eq_true_eq] at this
        rw [decide_eq_true_eq,getD_map]
        have h2:=this.2.1
        rw [getD_get hi] at h2
        exact h2
     rw [fitB_all h0 h1 hok,decide_eq_true hpc,decide_eq_true h1,Bool.or_true]
   · rw [fitB_long h0 h1,decide_eq_false h0,decide_eq_false h1]
     rfl
theorem l09Numbers_any (n m : Int) (w : World) :
 Calls Tryz.prog 44 #[.int .i64 n,.int .i64 m] w fun e w' => e = .returned (.bool (manyB n m)) /\ w = w':=by
 go_enter Tryz.func44,Tryz.ntmps44
 go_wp2_with fail
 refine (l05Nums_any 1 n m w).mono ?_
 rintro e w1 ⟨rfl,rfl⟩
 go_wp2_with fail
 go_ret
 exact ⟨ret_bool (by unfold numsB;simp),rfl⟩
theorem l09At_any (a : Option Addr) (n cap : Nat) (l : List Ev) (x : Int) (w : World) (h : ER w a n cap l) (hn : n <= 1048576) :
 Calls Tryz.prog 72 #[.slice a n cap,.int .i64 x] w fun e w' => e = .returned (.int .i64 (atE l x 0)) /\ w = w':=by
 have HL:=qH h.len
 go_enter Tryz.func72,Tryz.ntmps72
 go_wp2_with fail
 go_loop [5] (fun i => ∃ j : Nat,j <= n /\ i = .int .i64 j /\ Hid (atE l x 0 = atE (l.drop j) x (j : Int))) (fun i => n - (intOf i).toNat)
 case atStart => exact ⟨0,Nat.zero_le _,rfl,qH rfl⟩
 case round =>
  obtain ⟨j,hj,rfl,HA⟩:=hrel
  by_cases hlt : j < n
  · obtain ⟨g,o,rfl,hg,c0,c1,c2,c3,c4⟩:=h.at hlt
    have hin : 0 <= (j : Int) /\ (j : Int) < (n : Int):=by omega
    have HDP : Hid (l.drop j = l.getD j evD :: l.drop (j + 1)):=qH (by
     have hjl : j < l.length:=by rw [HL.out];exact hlt
     rw [getD_get hjl]
     exact List.drop_eq_getElem_cons hjl)
    have HST : Hid (atE l x 0 = if (l.getD j evD).x = x then (j : Int) else atE (l.drop (j + 1)) x ((j : Int) + 1)):=qH (by rw [HA.out,HDP.out];rfl)
    generalize (l.getD j evD).x = ex at *
    have hwj : IntKind.i64.wrap ((j : Int) + 1) = (j : Int) + 1:=IntWalk.i64_in _ (by omega)
    clear c0 c1 c2 c4 h HDP
    by_cases hx : ex = x
    · have HF : Hid (atE l x 0 = (j : Int)):=qH (by rw [HST.out,if_pos hx])
      subst hx
      go_wp2_with fail
      go_ret
      exact ⟨by show Ending.returned (.int .i64 (j : Int)) = _;rw [HF.out],rfl⟩
    · have hxb : (ex == x) = false:=by simp [hx]
      have HF : Hid (atE l x 0 = atE (l.drop (j + 1)) x ((j + 1 : Nat) : Int)):=qH (by rw [HST.out,if_neg hx];rfl)
      clear hx
      go_wp2_with fail
      go_round
      case rel => exact ⟨j + 1,by omega,by go_num,HF⟩
      case measure => simp [intOf];omega
  · obtain rfl : j = n:=by omega
    have HF : Hid (atE l x 0 = -1):=qH (by rw [HA.out,List.drop_eq_nil_of_le (by rw [HL.out];exact Nat.le_refl _)];rfl)
    clear h
    go_wp2_with fail
    go_ret
    exact ⟨by show Ending.returned (.int .i64 (-1)) = _;rw [HF.out],rfl⟩
end Go.Proofs.YthkbcjnbmciolaaGreatDoor
