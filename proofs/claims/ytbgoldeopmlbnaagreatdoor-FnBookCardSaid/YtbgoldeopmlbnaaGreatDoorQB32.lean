/- Used by the law. -/
import Derived.Test.YtbgoldeopmlbnaaGreatDoorQB31
set_option maxRecDepth 100000
set_option maxHeartbeats 16000000
namespace Go.Proofs.YtbgoldeopmlbnaaGreatDoor
open Go.RowKit Go.PlainAid G MGet MGF IRow MNum MJoin
set_option linter.unusedVariables false
theorem wf_p {n : Int} (h : 0 <= n /\ n <= 9223372036854775807) : (Lit.int .i64 n).wf = true:=by
 have h1:=h.1
 have h2:=h.2
 simp only [Lit.wf,IntKind.min,IntKind.max,IntKind.signed,IntKind.bits]
 simp
 omega
theorem implTxRead_any (s : ByteArray) (w : World) (hs : s.size <= maxLen) (hg : ET w) :
 Calls Tryz.prog 8 #[.string s] w (NewSS (txRd s) w):=by
 have HS:=qH hs
 obtain ⟨ti,hi,hz,hsy,hy⟩:=info_parts infoDeeds
 go_enter Tryz.func8,Tryz.ntmps8
 go_wp2_with fail
 go_loopw [3,4] (fun v i wr => ∃ (p f : Nat) (a : Option Addr) (c : Nat) (rs : List Rw),v = .slice a rs.length c /\ i = .int .i64 p /\ p <= s.size /\ s.size + 1 <= f + p /\ rs.length <= p /\ Hid (SS wr w.heap.size (.slice a rs.length c) rs) /\ Hid (txRd s = rs.map Rw.l ++ txF s f p) /\ Hid (Below w.heap.size w wr) /\ Hid (ET wr)) (fun _ i _ => s.size + 1 - (intOf i).toNat)
 case atStart => exact ⟨0,s.size + 1,none,0,[],rfl,rfl,Nat.zero_le _,Nat.le_refl _,Nat.le_refl _,SS.nil _ _,rfl,Below.refl _ _,hg⟩
 case round =>
  obtain ⟨p,f,a,c,rs,rfl,rfl,hp,hf,hn,HSS,HTX,HB,HE⟩:=hrel
  by_cases hc : (getT s (p : Int)).2.2 = 0
  · obtain ⟨t,p',hgt,hpp,hps,ht,hs8⟩:=getT_step hc
    have HGT:=qH hgt
    clear hc hgt
    go_wp2_with fail
    refine (implGetText_any s (p : Int) wr (wf_p (by unfold maxLen at hs;omega)) HS.out HE.out).mono ?_
    rintro e w1 ⟨rfl,hb⟩
    rw [HGT.out]
    unfold textOutV
    dsimp only
    have HB1:=qH hb
    clear hb
    obtain ⟨V,hV⟩ : ∃ V,V = w1.alloc (.cells #[.string t,.int .i64 p',.int .i64 0] 69):=⟨_,rfl⟩
    obtain ⟨b,hb0⟩ : ∃ b,b = w1.heap.size:=⟨_,rfl⟩
    have hV1 : Below w1.heap.size w1 V:=by rw [hV];exact (Below.refl _ _).alloc (Nat.le_refl _) _
    have HXV:=qH (show BoxC V b [.string t,.int .i64 p',.int .i64 0] by rw [hV,hb0];exact BoxC.made _ _ _)
    have HbV : Below wr.heap.size wr V:=HB1.out.trans (hV1.mono HB1.out.size)
    have HSV:=qH (HSS.out.below HbV)
    have HBV:=qH (HB.out.trans (HbV.mono HB.out.size))
    have HEV:=qH (HE.out.below HbV)
    have HLT : Hid (∀ q,(Value.slice a rs.length c).ownBlock = some q -> q < b):=qH (fun q hq => by have:=(HSS.out.out.lt q hq).2;have:=HB1.out.size;omega)
    have HWB : Hid (w.heap.size <= b):=qH (by have:=HB1.out.size;have:=HB.out.size;omega)
    clear HbV hV1 HSS HB HE HB1
    obtain ⟨f,rfl⟩ : ∃ f',f = f' + 1:=⟨f - 1,by omega⟩
    go_wp2_with fail
    rw [<- hV,<- hb0]
    clear hV hb0
    refine (deedsIn_any t V ht HEV.out).mono ?_
    rintro e w2 ⟨ra,rn,rc,rfl,ho,hb⟩
    have HRL : Hid ((rdPart t).length = rn):=qH (DdR.olen ho)
    have HX2:=qH (HXV.out.below (hb.mono (Nat.le_refl _)))
    have HS2:=qH (HSV.out.below hb)
    have HB2:=qH (HBV.out.trans (hb.mono HBV.out.size))
    have HE2:=qH (HEV.out.below hb)
    have HR2:=qH (own_mono ho HBV.out.size)
    have HD2 : Hid (∀ i,i < rs.length -> Disj (rs.getD i rwD).v (.slice ra rn rc)):=qH (fun i hi => own_disj (HSV.out.row i hi) ho)
    clear ho hb HXV HSV HBV HEV
    by_cases hr : rdPart t = []
    · have hrn : rn = 0:=by have:=HRL.out;rw [hr] at this;exact this.symm
      have HTE : Hid (txF s (f + 1) p = []):=qH (txF_end (by rw [HGT.out];exact hr))
      subst hrn
      clear hr
      go_wp2_with fail
      exact bodyPost_ret (v:=.slice a rs.length c) (by simp [results,Tryz.results8,go_sem]) rfl ⟨a,_,c,rs,rfl,rfl,HS2.out,by rw [HTX.out,HTE.out,List.append_nil],HB2.out⟩
    · have hrn : ((rn : Int) == 0) = false:=by
       rw [beq_eq_false_iff_ne]
       intro h0
       exact hr (List.eq_nil_of_length_eq_zero (by rw [HRL.out];omega))
      have HTG:=qH (txF_go (f:=f) HGT.out hr)
      generalize rdPart t = ds at *
      clear hr
      obtain ⟨r,hrr⟩ : ∃ r : Rw,r = ⟨ra,rn,rc,ds⟩:=⟨_,rfl⟩
      have HRR:=qH hrr
      have HAB : Hid (Below w2.heap.size w2 (w2.alloc (.cells #[.slice ra rn rc] 37))):=qH ((Below.refl _ _).alloc (Nat.le_refl _) _)
      have HXL : Hid (SR rwE rwD (w2.alloc (.cells #[.slice ra rn rc] 37)) (some ⟨w2.heap.size,0,none⟩) 1 1 [r]):=qH (by rw [hrr];exact SR.own (by decide) (World.ownsRow_lit w2 #[.slice ra rn rc] 1 (Nat.le_refl _) (by decide) rfl))
      have HS3:=qH (HS2.out.below HAB.out)
      have HX3:=qH (HX2.out.below HAB.out)
      have HE3:=qH (HE2.out.below HAB.out)
      have HR3:=qH (own_below HR2.out HAB.out)
      have HB3:=qH (HB2.out.trans (HAB.out.mono HB2.out.size))
      clear hrr HS2 HX2 HE2 HR2 HB2
      have HPU : Hid (∀ (v3 : Value) (u3 : World),u3.ownsRow w.heap.size 37 rwE.k v3 (rs.length + 1) (rwE.flat (rs ++ [r])) -> (w2.alloc (.cells #[.slice ra rn rc] 37)).grownBy u3 (Value.slice a rs.length c).ownBlock -> SS u3 w.heap.size v3 (rs ++ [r])):=qH (fun v3 u3 O3 G3 => HS3.out.push (r:=r) (by rw [HRR.out];exact HR3.out) (by rw [HRR.out];exact HD2.out) O3 G3)
      have hn1 : rs.length <= 1048576:=by omega
      have hk0 : 0 < rwE.k:=by decide
      have h24 : (24 : Nat) <= 1024:=by decide
      have hm1 : 1 <= 1048576:=by decide
      go_wp2_with (at_builtin;refine append_wl rwE rwD rfl _ _ 41 rfl 37 ti _ 24 Tryz.underlying41 hi hz hsy hy rfl hk0 h24 w.heap.size _ rs.length rs rfl HS3.out.out _ 1 1 [r] rfl HXL.out HB3.out.size hn1 hm1 ?_;intro v3 u3 O3 G3;have HS4:=qH (HPU.out v3 u3 O3 G3);have HX4:=qH (HX3.out.grown G3 (fun e => Nat.lt_irrefl _ (HLT.out _ e.symm)));have HB4:=qH (HB3.out.grown G3 HB3.out.size (fun q hq => (HS3.out.out.lt q hq).1));obtain ⟨a5,c5,rfl⟩:=own_shape O3;clear O3 G3;have x1:=HX4.out.cell 1 _ rfl)
      refine ⟨⟨p',f,a5,c5,rs ++ [r],by rw [List.length_append];rfl,rfl,hps,by omega,by rw [List.length_append];show rs.length + 1 <= p';omega,?_,?_,HB4.out,?_⟩,?_⟩
      · unfold Hid
        rw [List.length_append]
        exact HS4.out
      · unfold Hid
        rw [HTX.out,HTG.out,List.map_append,List.append_assoc,HRR.out]
        rfl
      · exact hg.below HB4.out
      · simp [intOf]
        omega
  · have hgt:=getT_zero hc
    have HTE : Hid (txF s f p = []):=qH (txF_no hc)
    obtain ⟨k,hk⟩ : ∃ k,k = (getT s (p : Int)).2.2:=⟨_,rfl⟩
    rw [<- hk] at hgt hc
    have HGT:=qH hgt
    have hcb : (k != 0) = true:=by simp [hc]
    clear hc hgt hk
    go_wp2_with fail
    refine (implGetText_any s (p : Int) wr (wf_p (by unfold maxLen at hs;omega)) HS.out HE.out).mono ?_
    rintro e w1 ⟨rfl,hb⟩
    rw [HGT.out]
    unfold textOutV
    dsimp only
    have HB1:=qH hb
    clear hb
    go_wp2_with fail
    have HbX : Below wr.heap.size wr (w1.alloc (.cells #[.string ⟨#[]⟩,.int .i64 0,.int .i64 k] 69)):=HB1.out.alloc HB1.out.size _
    exact bodyPost_ret (v:=.slice a rs.length c) (by simp [results,Tryz.results8,go_sem]) rfl ⟨a,_,c,rs,rfl,rfl,HSS.out.below HbX,by rw [HTX.out,HTE.out,List.append_nil],HB.out.trans (HbX.mono HB.out.size)⟩
theorem specTxRead_any (s : ByteArray) (w : World) (hs : s.size <= maxLen) :
 Calls Tryz.prog 9 #[.string s] w (NewSS (txRd s) w):=by
 have HS:=qH hs
 obtain ⟨ti,hi,hz,hsy,hy⟩:=info_parts infoDeeds
 obtain ⟨W,hW⟩ : ∃ W,W = w.alloc (.cells #[] 37):=⟨_,rfl⟩
 have HB0:=qH (show Below w.heap.size w W by rw [hW];exact (Below.refl _ _).alloc (Nat.le_refl _) _)
 have HS0:=qH (show SS W w.heap.size (.slice (some ⟨w.heap.size,0,none⟩) 0 0) [] by
  rw [hW]
  exact ⟨own_made0 rwE w 37 (Nat.le_refl _),fun i hi => absurd hi (Nat.not_lt_zero _),fun i j _ hj => absurd hj (Nat.not_lt_zero _)⟩)
 go_enter Tryz.func9,Tryz.ntmps9
 go_wp2_with fail
 rw [<- hW]
 clear hW
 go_loopw [3,4] (fun v i wr => ∃ (p f : Nat) (a : Option Addr) (c : Nat) (rs : List Rw),v = .slice a rs.length c /\ i = .int .i64 p /\ p <= s.size /\ s.size + 1 <= f + p /\ rs.length <= p /\ Hid (SS wr w.heap.size (.slice a rs.length c) rs) /\ Hid (txRd s = rs.map Rw.l ++ txF s f p) /\ Hid (Below w.heap.size w wr)) (fun _ i _ => s.size + 1 - (intOf i).toNat)
 case atStart => exact ⟨0,s.size + 1,_,_,[],rfl,rfl,Nat.zero_le _,Nat.le_refl _,Nat.le_refl _,HS0.out,rfl,HB0.out⟩
 case round =>
  obtain ⟨p,f,a,c,rs,rfl,rfl,hp,hf,hn,HSS,HTX,HB⟩:=hrel
  clear HS0 HB0
  by_cases hl : s.size <= 8000
  · have hll : (s.size : Int) <= 8000:=by omega
    by_cases hc : (getT s (p : Int)).2.2 = 0
    · obtain ⟨t,p',hgt,hpp,hps,ht,hs8⟩:=getT_step hc
      have HGT:=qH hgt
      clear hc hgt
      go_wp2_with fail
      refine (specGetText_any s (p : Int) wr (wf_p (by unfold maxLen at hs;omega)) HS.out).mono ?_
      rintro e w1 ⟨rfl,hb⟩
      rw [HGT.out]
      unfold textOutV
      dsimp only
      have HB1:=qH hb
      clear hb
      obtain ⟨V,hV⟩ : ∃ V,V = w1.alloc (.cells #[.string t,.int .i64 p',.int .i64 0] 69):=⟨_,rfl⟩
      obtain ⟨b,hb0⟩ : ∃ b,b = w1.heap.size:=⟨_,rfl⟩
      have hV1 : Below w1.heap.size w1 V:=by rw [hV];exact (Below.refl _ _).alloc (Nat.le_refl _) _
      have HXV:=qH (show BoxC V b [.string t,.int .i64 p',.int .i64 0] by rw [hV,hb0];exact BoxC.made _ _ _)
      have HbV : Below wr.heap.size wr V:=HB1.out.trans (hV1.mono HB1.out.size)
      have HSV:=qH (HSS.out.below HbV)
      have HBV:=qH (HB.out.trans (HbV.mono HB.out.size))
      have HLT : Hid (∀ q,(Value.slice a rs.length c).ownBlock = some q -> q < b):=qH (fun q hq => by have:=(HSS.out.out.lt q hq).2;have:=HB1.out.size;omega)
      clear HbV hV1 HSS HB HB1
      obtain ⟨f,rfl⟩ : ∃ f',f = f' + 1:=⟨f - 1,by omega⟩
      go_wp2_with fail
      rw [<- hV,<- hb0]
      clear hV hb0
      refine (specUnseal_any t V ht).mono ?_
      rintro e w2 ⟨rfl,hb⟩
      have HX2:=qH (HXV.out.below hb)
      have HS2:=qH (HSV.out.below hb)
      have HB2:=qH (HBV.out.trans (hb.mono HBV.out.size))
      clear hb HXV HSV HBV
      by_cases ho : (openS t).2.2 = 0
      · have HOI:=qH (openS_is ho)
        have hf8:=openS_fits ho
        have HRP : Hid (rdPart t = rdTx (openS t).1):=qH (by unfold rdPart;rw [if_pos ho])
        rw [HOI.out]
        generalize (openS t).1 = t2 at *
        unfold textOutV
        dsimp only
        clear ho
        obtain ⟨Y,hY⟩ : ∃ Y,Y = w2.alloc (.cells #[.string t2,.int .i64 0,.int .i64 0] 69):=⟨_,rfl⟩
        obtain ⟨y,hy0⟩ : ∃ y,y = w2.heap.size:=⟨_,rfl⟩
        have hY1 : Below w2.heap.size w2 Y:=by rw [hY];exact (Below.refl _ _).alloc (Nat.le_refl _) _
        have HYY:=qH (show BoxC Y y [.string t2,.int .i64 0,.int .i64 0] by rw [hY,hy0];exact BoxC.made _ _ _)
        have HX3:=qH (HX2.out.below hY1)
        have HS3:=qH (HS2.out.below hY1)
        have HB3:=qH (HB2.out.trans (hY1.mono HB2.out.size))
        clear hY1 HX2 HS2 HB2
        go_wp2_with fail
        rw [<- hY,<- hy0]
        clear hY hy0
        refine (specTx_any t2 Y hf8).mono ?_
        rintro e w3 ⟨ra,rn,rc,rfl,hown,hb⟩
        have HOW:=qH hown
        have HD4 : Hid (rdTx t2 ≠ [] -> ∀ i,i < rs.length -> Disj (rs.getD i rwD).v (.slice ra rn rc)):=qH (fun h i hi => own_disj (HS3.out.row i hi) (hown h))
        have HR4 : Hid (rdTx t2 ≠ [] -> w3.ownsRow w.heap.size 34 ddE.k (.slice ra rn rc) rn (ddE.flat (rdTx t2))):=qH (fun h => own_mono (hown h) HB3.out.size)
        have HX4:=qH (HX3.out.below hb)
        have HY4:=qH (HYY.out.below hb)
        have HS4:=qH (HS3.out.below hb)
        have HB4:=qH (HB3.out.trans (hb.mono HB3.out.size))
        clear hb hown HOW HX3 HYY HS3 HB3
        have y2:=HY4.out.cell 2 _ rfl
        by_cases hr : rdTx t2 = []
        · have HTE : Hid (txF s (f + 1) p = []):=qH (txF_end (by rw [HGT.out,HRP.out];exact hr))
          rw [show decide (rdTx t2 ≠ []) = false by rw [hr];rfl]
          clear hr
          go_wp2_with fail
          exact bodyPost_ret (v:=.slice a rs.length c) (by simp [results,Tryz.results9,go_sem]) rfl ⟨a,_,c,rs,rfl,rfl,HS4.out,by rw [HTX.out,HTE.out,List.append_nil],HB4.out⟩
        · rw [show decide (rdTx t2 ≠ []) = true from decide_eq_true hr]
          have HTG:=qH (txF_go (f:=f) HGT.out (by rw [HRP.out];exact hr))
          rw [HRP.out] at HTG
          have HR5:=qH (HR4.out hr)
          have HD5:=qH (HD4.out hr)
          generalize rdTx t2 = ds at *
          clear hr HR4 HD4
          obtain ⟨r,hrr⟩ : ∃ r : Rw,r = ⟨ra,rn,rc,ds⟩:=⟨_,rfl⟩
          have HRR:=qH hrr
          have HAB : Hid (Below w3.heap.size w3 (w3.alloc (.cells #[.slice ra rn rc] 37))):=qH ((Below.refl _ _).alloc (Nat.le_refl _) _)
          have HXL : Hid (SR rwE rwD (w3.alloc (.cells #[.slice ra rn rc] 37)) (some ⟨w3.heap.size,0,none⟩) 1 1 [r]):=qH (by rw [hrr];exact SR.own (by decide) (World.ownsRow_lit w3 #[.slice ra rn rc] 1 (Nat.le_refl _) (by decide) rfl))
          have HS5:=qH (HS4.out.below HAB.out)
          have HR6:=qH (own_below HR5.out HAB.out)
          have HB5:=qH (HB4.out.trans (HAB.out.mono HB4.out.size))
          clear hrr HS4 HB4 HR5
          have x1:=HX4.out.cell 1 _ rfl
          have HPU : Hid (∀ (v3 : Value) (u3 : World),u3.ownsRow w.heap.size 37 rwE.k v3 (rs.length + 1) (rwE.flat (rs ++ [r])) -> (w3.alloc (.cells #[.slice ra rn rc] 37)).grownBy u3 (Value.slice a rs.length c).ownBlock -> SS u3 w.heap.size v3 (rs ++ [r])):=qH (fun v3 u3 O3 G3 => HS5.out.push (r:=r) (by rw [HRR.out];exact HR6.out) (by rw [HRR.out];exact HD5.out) O3 G3)
          have hn1 : rs.length <= 1048576:=by omega
          have hk0 : 0 < rwE.k:=by decide
          have h24 : (24 : Nat) <= 1024:=by decide
          have hm1 : 1 <= 1048576:=by decide
          go_wp2_with (at_builtin;refine append_wl rwE rwD rfl _ _ 41 rfl 37 ti _ 24 Tryz.underlying41 hi hz hsy hy rfl hk0 h24 w.heap.size _ rs.length rs rfl HS5.out.out _ 1 1 [r] rfl HXL.out HB5.out.size hn1 hm1 ?_;intro v3 u3 O3 G3;have HS6:=qH (HPU.out v3 u3 O3 G3);have HB6:=qH (HB5.out.grown G3 HB5.out.size (fun q hq => (HS5.out.out.lt q hq).1));obtain ⟨a5,c5,rfl⟩:=own_shape O3;clear O3 G3)
          refine ⟨⟨p',f,a5,c5,rs ++ [r],by rw [List.length_append];rfl,rfl,hps,by omega,by rw [List.length_append];show rs.length + 1 <= p';omega,?_,?_,HB6.out⟩,?_⟩
          · unfold Hid
            rw [List.length_append]
            exact HS6.out
          · unfold Hid
            rw [HTX.out,HTG.out,List.map_append,List.append_assoc,HRR.out]
            rfl
          · simp [intOf]
            omega
      · have hoz:=openS_zero t ho
        obtain ⟨k,hk⟩ : ∃ k,k = (openS t).2.2:=⟨_,rfl⟩
        have HTE : Hid (txF s (f + 1) p = []):=qH (txF_end (by rw [HGT.out];show rdPart t = [];unfold rdPart;rw [if_neg ho]))
        rw [<- hk] at hoz ho
        rw [hoz]
        have hkb : (k != 0) = true:=by simp [ho]
        unfold textOutV
        dsimp only
        clear ho hk hoz
        obtain ⟨Y,hY⟩ : ∃ Y,Y = w2.alloc (.cells #[.string ⟨#[]⟩,.int .i64 0,.int .i64 k] 69):=⟨_,rfl⟩
        obtain ⟨y,hy0⟩ : ∃ y,y = w2.heap.size:=⟨_,rfl⟩
        have hY1 : Below w2.heap.size w2 Y:=by rw [hY];exact (Below.refl _ _).alloc (Nat.le_refl _) _
        have HYY:=qH (show BoxC Y y [.string ⟨#[]⟩,.int .i64 0,.int .i64 k] by rw [hY,hy0];exact BoxC.made _ _ _)
        have HS3:=qH (HS2.out.below hY1)
        have HB3:=qH (HB2.out.trans (hY1.mono HB2.out.size))
        clear hY1 HS2 HB2
        go_wp2_with fail
        rw [<- hY,<- hy0]
        clear hY hy0
        refine (specTx_any ⟨#[]⟩ Y (Nat.zero_le _)).mono ?_
        rintro e w3 ⟨ra,rn,rc,rfl,_,hb⟩
        have HY4:=qH (HYY.out.below hb)
        have HS4:=qH (HS3.out.below hb)
        have HB4:=qH (HB3.out.trans (hb.mono HB3.out.size))
        clear hb HYY HS3 HB3
        have y2:=HY4.out.cell 2 _ rfl
        generalize decide (rdTx ⟨#[]⟩ ≠ []) = ok at *
        go_wp2_with fail
        exact bodyPost_ret (v:=.slice a rs.length c) (by simp [results,Tryz.results9,go_sem]) rfl ⟨a,_,c,rs,rfl,rfl,HS4.out,by rw [HTX.out,HTE.out,List.append_nil],HB4.out⟩
    · have hgt:=getT_zero hc
      have HTE : Hid (txF s f p = []):=qH (txF_no hc)
      obtain ⟨k,hk⟩ : ∃ k,k = (getT s (p : Int)).2.2:=⟨_,rfl⟩
      rw [<- hk] at hgt hc
      have HGT:=qH hgt
      have hcb : (k != 0) = true:=by simp [hc]
      clear hc hgt hk
      go_wp2_with fail
      refine (specGetText_any s (p : Int) wr (wf_p (by unfold maxLen at hs;omega)) HS.out).mono ?_
      rintro e w1 ⟨rfl,hb⟩
      rw [HGT.out]
      unfold textOutV
      dsimp only
      have HB1:=qH hb
      clear hb
      go_wp2_with fail
      have HbX : Below wr.heap.size wr (w1.alloc (.cells #[.string ⟨#[]⟩,.int .i64 0,.int .i64 k] 69)):=HB1.out.alloc HB1.out.size _
      exact bodyPost_ret (v:=.slice a rs.length c) (by simp [results,Tryz.results9,go_sem]) rfl ⟨a,_,c,rs,rfl,rfl,HSS.out.below HbX,by rw [HTX.out,HTE.out,List.append_nil],HB.out.trans (HbX.mono HB.out.size)⟩
  · have hll : ¬ (s.size : Int) <= 8000:=by omega
    have HTE : Hid (txF s f p = []):=qH (txF_no (by rw [getT_size (by omega)];decide))
    go_wp2_with fail
    exact bodyPost_ret (v:=.slice a rs.length c) (by simp [results,Tryz.results9,go_sem]) rfl ⟨a,_,c,rs,rfl,rfl,HSS.out,by rw [HTX.out,HTE.out,List.append_nil],HB.out⟩
theorem rdTx_len (u : ByteArray) : (rdTx u).length <= 10:=by
 unfold rdTx
 split
 · rename_i h
   rw [ddsTo_length]
   omega
 · exact Nat.zero_le _
theorem rdPart_len (t : ByteArray) : (rdPart t).length <= 10:=by
 unfold rdPart
 split
 · exact rdTx_len _
 · exact Nat.zero_le _
theorem txF_ten (s : ByteArray) : ∀ (f p i : Nat),((txF s f p).getD i []).length <= 10
 | 0,_,i => by simp [txF,List.getD]
 | f + 1,p,i => by
  unfold txF
  split
  · split
    · simp [List.getD]
    · cases i with
      | zero => exact rdPart_len _
      | succ i => exact txF_ten s f _ i
  · simp [List.getD]
theorem txF_len (s : ByteArray) : ∀ (f p : Nat),(txF s f p).length <= f
 | 0,_ => Nat.le_refl _
 | f + 1,p => by
  unfold txF
  split
  · split
    · exact Nat.zero_le _
    · exact Nat.succ_le_succ (txF_len s f _)
  · exact Nat.zero_le _
theorem txRd_len (s : ByteArray) : (txRd s).length <= 8001:=by
 by_cases h : 8000 < s.size
 · have : txRd s = []:=txF_no (by rw [getT_size h];decide)
   rw [this]
   exact Nat.zero_le _
 · exact Nat.le_trans (txF_len s _ _) (by omega)
theorem SS.info {w : World} {B : Nat} {v : Value} {rs : List Rw} {s : ByteArray} (h : SS w B v rs) (hm : rs.map Rw.l = txRd s) : rs.length = (txRd s).length /\ SSL w B v rs (fun i => (txRd s).getD i []) /\ ∀ i,i < (txRd s).length -> (rs.getD i rwD).n <= 10:=by
 have hl : rs.length = (txRd s).length:=by rw [<- hm,List.length_map]
 have he : ∀ i,i < rs.length -> (txRd s).getD i [] = (rs.getD i rwD).l:=fun i hi => by
  rw [<- hm]
  simp [List.getD,List.getElem?_map,List.getElem?_eq_getElem hi]
 refine ⟨hl,h.rows.to he,fun i hi => ?_⟩
 have h1:=DdR.olen (h.row i (by omega))
 rw [<- h1,<- he i (by omega)]
 exact txF_ten s _ _ i
end Go.Proofs.YtbgoldeopmlbnaaGreatDoor
