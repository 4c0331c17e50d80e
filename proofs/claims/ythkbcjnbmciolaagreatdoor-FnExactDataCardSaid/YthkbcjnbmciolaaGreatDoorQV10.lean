/- Used by the law. -/
import Derived.LaidEql
import Derived.Stop.Asserts
import Derived.RowKitTokens
import Derived.Lib.ReflectliteSlice
import Derived.Test.YthkbcjnbmciolaaGreatDoorQV09
set_option maxRecDepth 100000
set_option maxHeartbeats 16000000
namespace Go.Proofs.YthkbcjnbmciolaaGreatDoor
open Go.RowKit Go.PlainAid G MGF IRow
set_option linter.unusedVariables false
structure VR (w : World) (a1 : Option Addr) (n1 a3 : Nat) (a2 : Option Addr) (n2 a4 : Nat) (ts : List Tm) (is : List Im) (g1 : Option Addr) (gn g2 : Nat) (gs : List Ev) (r1 : Option Addr) (rn r2 : Nat) (rs : List Ev) : Prop where
 b : BkR w a1 n1 a3 a2 n2 a4 ts is
 g : ER w g1 gn g2 gs
 r : ER w r1 rn r2 rs
theorem VR.below {w w' : World} {a1 : Option Addr} {n1 a3 : Nat} {a2 : Option Addr} {n2 a4 : Nat} {ts : List Tm} {is : List Im} {g1 : Option Addr} {gn g2 : Nat} {gs : List Ev} {r1 : Option Addr} {rn r2 : Nat} {rs : List Ev} (h : VR w a1 n1 a3 a2 n2 a4 ts is g1 gn g2 gs r1 rn r2 rs) (hb : Below w.heap.size w w') : VR w' a1 n1 a3 a2 n2 a4 ts is g1 gn g2 gs r1 rn r2 rs :=
 ⟨h.b.below hb,SR.below h.g hb,SR.below h.r hb⟩
structure VO (w : World) (base : Nat) (a1 : Option Addr) (n1 a3 : Nat) (a2 : Option Addr) (n2 a4 : Nat) (ts : List Tm) (is : List Im) (g1 : Option Addr) (gn g2 : Nat) (gs : List Ev) (r1 : Option Addr) (rn r2 : Nat) (rs : List Ev) : Prop where
 b : BkO w base a1 n1 a3 a2 n2 a4 ts is
 g : w.ownsRow base 101 evE.k (.slice g1 gn g2) gn (evE.flat gs)
 r : w.ownsRow base 101 evE.k (.slice r1 rn r2) rn (evE.flat rs)
 d : Disj (.slice g1 gn g2) (.slice r1 rn r2)
theorem VO.below {w w' : World} {base : Nat} {a1 : Option Addr} {n1 a3 : Nat} {a2 : Option Addr} {n2 a4 : Nat} {ts : List Tm} {is : List Im} {g1 : Option Addr} {gn g2 : Nat} {gs : List Ev} {r1 : Option Addr} {rn r2 : Nat} {rs : List Ev} (h : VO w base a1 n1 a3 a2 n2 a4 ts is g1 gn g2 gs r1 rn r2 rs) (hb : Below w.heap.size w w') : VO w' base a1 n1 a3 a2 n2 a4 ts is g1 gn g2 gs r1 rn r2 rs :=
 ⟨h.b.below hb,own_below h.g hb,own_below h.r hb,h.d⟩
theorem VO.read {w : World} {base : Nat} {a1 : Option Addr} {n1 a3 : Nat} {a2 : Option Addr} {n2 a4 : Nat} {ts : List Tm} {is : List Im} {g1 : Option Addr} {gn g2 : Nat} {gs : List Ev} {r1 : Option Addr} {rn r2 : Nat} {rs : List Ev} (h : VO w base a1 n1 a3 a2 n2 a4 ts is g1 gn g2 gs r1 rn r2 rs) : VR w a1 n1 a3 a2 n2 a4 ts is g1 gn g2 gs r1 rn r2 rs :=
 ⟨h.b.read,ER.own h.g,ER.own h.r⟩
theorem toRekey_any (on : Bool) (nd mn : Int) (r1 : Option Addr) (rn r2 : Nat) (rs : List Ev) (w : World) (h : ER w r1 rn r2 rs) (hn : rn <= 1048576) :
 Calls Tryz.prog 24 #[.agg #[.bool on,.int .i64 nd,.int .i64 mn,.slice r1 rn r2]] w fun e w' => ∃ b1 b2,e = .returned (.agg #[.bool on,.int .i64 nd,.int .i64 mn,.slice b1 rn b2]) /\ w'.ownsRow w.heap.size 101 evE.k (.slice b1 rn b2) rn (evE.flat rs) /\ Below w.heap.size w w':=by
 have HR:=qH h
 clear h
 obtain ⟨W,hW⟩ : ∃ W,W = ((w.alloc (.cells #[.bool on,.int .i64 nd,.int .i64 mn,.slice r1 rn r2] 32)).alloc (.cells #[.bool false,.int .i64 0,.int .i64 0,.slice none 0 0] 46)).alloc (.cells #[.bool false,.int .i64 0,.int .i64 0,.slice none 0 0] 46):=⟨_,rfl⟩
 have HB0 : Hid (Below w.heap.size w W):=qH (by rw [hW];repeat' (first | exact Below.refl _ _ | refine Below.alloc ?_ (by first | exact Nat.le_refl _ | (simp;done) | (simp;omega)) _))
 have HA0 : Hid (BoxC W (w.heap.size) [.bool on,.int .i64 nd,.int .i64 mn,.slice r1 rn r2]):=qH (by rw [hW];have:=(((BoxC.made w #[.bool on,.int .i64 nd,.int .i64 mn,.slice r1 rn r2] 32).alloc (.cells #[.bool false,.int .i64 0,.int .i64 0,.slice none 0 0] 46)).alloc (.cells #[.bool false,.int .i64 0,.int .i64 0,.slice none 0 0] 46));exact this)
 have HA1 : Hid (BoxC W (w.heap.size + 1) [.bool false,.int .i64 0,.int .i64 0,.slice none 0 0]):=qH (by rw [hW];have:=((BoxC.made (w.alloc (.cells #[.bool on,.int .i64 nd,.int .i64 mn,.slice r1 rn r2] 32)) #[.bool false,.int .i64 0,.int .i64 0,.slice none 0 0] 46).alloc (.cells #[.bool false,.int .i64 0,.int .i64 0,.slice none 0 0] 46));rw [World.size_alloc] at this;exact this)
 have HA2 : Hid (BoxC W (w.heap.size + 1 + 1) [.bool false,.int .i64 0,.int .i64 0,.slice none 0 0]):=qH (by rw [hW];have:=(BoxC.made ((w.alloc (.cells #[.bool on,.int .i64 nd,.int .i64 mn,.slice r1 rn r2] 32)).alloc (.cells #[.bool false,.int .i64 0,.int .i64 0,.slice none 0 0] 46)) #[.bool false,.int .i64 0,.int .i64 0,.slice none 0 0] 46);rw [World.size_alloc,World.size_alloc] at this;exact this)
 have HBS : Hid (w.heap.size + 1 + 1 < W.heap.size):=qH HA2.out.lt
 have HSZ : Hid (W.heap.size <= W.heap.size):=qH (Nat.le_refl _)
 go_enter Tryz.func24,Tryz.ntmps24
 go_upto_region 2 with fail
 rw [<- hW]
 clear hW
 have yA0:=HA0.out.cell 0 _ rfl
 have yA1:=HA0.out.cell 1 _ rfl
 have yA2:=HA0.out.cell 2 _ rfl
 have yA3:=HA0.out.cell 3 _ rfl
 have yB0:=HA2.out.cell 0 _ rfl
 have fB0:=HA2.out.free 0
 have yB1:=HA2.out.cell 1 _ rfl
 have fB1:=HA2.out.free 1
 have yB2:=HA2.out.cell 2 _ rfl
 have fB2:=HA2.out.free 2
 obtain ⟨u1,hu1⟩ : ∃ u1,u1 = ((W.setCell ⟨w.heap.size + 1 + 1,0,none⟩ (.bool on)).setCell ⟨w.heap.size + 1 + 1,1,none⟩ (.int .i64 nd)).setCell ⟨w.heap.size + 1 + 1,2,none⟩ (.int .i64 mn):=⟨_,rfl⟩
 have hu1p : u1 = putL W (w.heap.size + 1 + 1) [(0,.bool on),(1,.int .i64 nd),(2,.int .i64 mn)]:=hu1
 have hG : World.grownBy W u1 (some (w.heap.size + 1 + 1)):=by rw [hu1p];exact putL_grown _ _ _
 have HX3 : Hid (BoxC u1 (w.heap.size + 1 + 1) [.bool on,.int .i64 nd,.int .i64 mn,.slice none 0 0]):=qH (by rw [hu1p];exact box_putL HA2.out [(0,.bool on),(1,.int .i64 nd),(2,.int .i64 mn)] (by simp))
 have HX4:=qH (HA0.out.grown hG (by simp <;> omega))
 have HX5:=qH (HA1.out.grown hG (by simp <;> omega))
 have HW6:=qH (grown_below HB0.out hG (by omega) HB0.out.size)
 have HS7:=qH (Nat.le_trans HSZ.out hG.size)
 clear hG
 have HE2:=qH hu1
 clear HA2 HA0 HA1 HB0 HSZ
 clear hu1p hu1
 go_wp2_with fail
 rw [<- HE2.out]
 clear yA0 yA1 yA2 yA3 yB0 fB0 yB1 fB1 yB2 fB2 HE2
 refine (toEnvS_any r1 rn r2 rs _ (SR.below HR.out HW6.out) hn).mono ?_
 rintro e v8 ⟨b1,b2,rfl,ho,hb⟩
 have HNR : Hid (∀ q,(.slice b1 rn b2 : Value).ownBlock = some q -> W.heap.size <= q):=qH (fun q hq => Nat.le_trans HS7.out (ho.lt q hq).1)
 have HO9:=qH (own_mono ho HW6.out.size)
 have HW10:=qH (HW6.out.trans (hb.mono HW6.out.size))
 have HS11:=qH (Nat.le_trans HS7.out hb.size)
 have HX12:=qH (HX4.out.below hb)
 have HX13:=qH (HX5.out.below hb)
 have HX14:=qH (HX3.out.below hb)
 clear hb HW6 HS7 HX4 HX5 HX3
 clear ho
 have yB0:=HX14.out.cell 0 _ rfl
 have yB1:=HX14.out.cell 1 _ rfl
 have yB2:=HX14.out.cell 2 _ rfl
 have yB3:=HX14.out.cell 3 _ rfl
 have fB3:=HX14.out.free 3
 have yC0:=HX13.out.cell 0 _ rfl
 have fC0:=HX13.out.free 0
 have yC1:=HX13.out.cell 1 _ rfl
 have fC1:=HX13.out.free 1
 have yC2:=HX13.out.cell 2 _ rfl
 have fC2:=HX13.out.free 2
 have yC3:=HX13.out.cell 3 _ rfl
 have fC3:=HX13.out.free 3
 obtain ⟨u15,hu15⟩ : ∃ u15,u15 = ((((v8.setCell ⟨w.heap.size + 1 + 1,3,none⟩ (.slice b1 rn b2)).setCell ⟨w.heap.size + 1,0,none⟩ (.bool on)).setCell ⟨w.heap.size + 1,1,none⟩ (.int .i64 nd)).setCell ⟨w.heap.size + 1,2,none⟩ (.int .i64 mn)).setCell ⟨w.heap.size + 1,3,none⟩ (.slice b1 rn b2):=⟨_,rfl⟩
 obtain ⟨m17,hm17⟩ : ∃ m17,m17 = putL v8 (w.heap.size + 1 + 1) [(3,.slice b1 rn b2)]:=⟨_,rfl⟩
 have hm17p:=hm17
 have hG : World.grownBy v8 m17 (some (w.heap.size + 1 + 1)):=by rw [hm17p];exact putL_grown _ _ _
 have HX18 : Hid (BoxC m17 (w.heap.size + 1 + 1) [.bool on,.int .i64 nd,.int .i64 mn,.slice b1 rn b2]):=qH (by rw [hm17p];exact box_putL HX14.out [(3,.slice b1 rn b2)] (by simp))
 have HX19:=qH (HX12.out.grown hG (by simp <;> omega))
 have HX20:=qH (HX13.out.grown hG (by simp <;> omega))
 have HO21:=qH (own_apartP HO9.out hG (fun q hq => by have:=HNR.out q hq;have:=HBS.out;omega))
 have HW22:=qH (grown_below HW10.out hG (by omega) HW10.out.size)
 have HS23:=qH (Nat.le_trans HS11.out hG.size)
 clear hG
 have hu15p : u15 = putL m17 (w.heap.size + 1) [(0,.bool on),(1,.int .i64 nd),(2,.int .i64 mn),(3,.slice b1 rn b2)]:=by rw [hu15,hm17];rfl
 have hG : World.grownBy m17 u15 (some (w.heap.size + 1)):=by rw [hu15p];exact putL_grown _ _ _
 have HX24 : Hid (BoxC u15 (w.heap.size + 1) [.bool on,.int .i64 nd,.int .i64 mn,.slice b1 rn b2]):=qH (by rw [hu15p];exact box_putL HX20.out [(0,.bool on),(1,.int .i64 nd),(2,.int .i64 mn),(3,.slice b1 rn b2)] (by simp))
 have HX25:=qH (HX19.out.grown hG (by simp <;> omega))
 have HX26:=qH (HX18.out.grown hG (by simp <;> omega))
 have HO27:=qH (own_apartP HO21.out hG (fun q hq => by have:=HNR.out q hq;have:=HBS.out;omega))
 have HW28:=qH (grown_below HW22.out hG (by omega) HW22.out.size)
 have HS29:=qH (Nat.le_trans HS23.out hG.size)
 clear hG
 have HE16:=qH hu15
 clear HX14 HX12 HX13 HO9 HW10 HS11 HX20 HX19 HX18 HO21 HW22 HS23
 clear hu15p hu15
 go_wp2_with fail
 rw [<- HE16.out]
 clear yB0 yB1 yB2 yB3 fB3 yC0 fC0 yC1 fC1 yC2 fC2 yC3 fC3 HE16
 have g0:=HX24.out.cell 0 _ rfl
 have g1:=HX24.out.cell 1 _ rfl
 have g2:=HX24.out.cell 2 _ rfl
 have g3:=HX24.out.cell 3 _ rfl
 exact bodyPost_ret (v:=.agg #[.bool on,.int .i64 nd,.int .i64 mn,.slice b1 rn b2]) (by simp [results,Tryz.results24,go_sem,g0,g1,g2,g3]) rfl ⟨b1,b2,rfl,HO27.out,HW28.out⟩
theorem eqRekey_same (on : Bool) (nd mn : Int) (a1 b1 : Option Addr) (rn a2 b2 : Nat) (rs : List Ev) (w : World) (h : ER w a1 rn a2 rs) (k : ER w b1 rn b2 rs) (hn : rn <= 1048576) :
 Calls Tryz.prog 33 #[.agg #[.bool on,.int .i64 nd,.int .i64 mn,.slice a1 rn a2],.agg #[.bool on,.int .i64 nd,.int .i64 mn,.slice b1 rn b2]] w fun e w' => e = .returned (.bool true) /\ Below w.heap.size w w':=by
 have HR:=qH h
 have HK:=qH k
 clear h k
 obtain ⟨W,hW⟩ : ∃ W,W = (w.alloc (.cells #[.bool on,.int .i64 nd,.int .i64 mn,.slice a1 rn a2] 46)).alloc (.cells #[.bool on,.int .i64 nd,.int .i64 mn,.slice b1 rn b2] 46):=⟨_,rfl⟩
 have HB0 : Hid (Below w.heap.size w W):=qH (by rw [hW];repeat' (first | exact Below.refl _ _ | refine Below.alloc ?_ (by first | exact Nat.le_refl _ | (simp;done) | (simp;omega)) _))
 have HA0 : Hid (BoxC W (w.heap.size) [.bool on,.int .i64 nd,.int .i64 mn,.slice a1 rn a2]):=qH (by rw [hW];have:=((BoxC.made w #[.bool on,.int .i64 nd,.int .i64 mn,.slice a1 rn a2] 46).alloc (.cells #[.bool on,.int .i64 nd,.int .i64 mn,.slice b1 rn b2] 46));exact this)
 have HA1 : Hid (BoxC W (w.heap.size + 1) [.bool on,.int .i64 nd,.int .i64 mn,.slice b1 rn b2]):=qH (by rw [hW];have:=(BoxC.made (w.alloc (.cells #[.bool on,.int .i64 nd,.int .i64 mn,.slice a1 rn a2] 46)) #[.bool on,.int .i64 nd,.int .i64 mn,.slice b1 rn b2] 46);rw [World.size_alloc] at this;exact this)
 go_enter Tryz.func33,Tryz.ntmps33
 go_wp2_with fail
 rw [<- hW]
 clear hW
 refine (eqEnvS_same a1 b1 rn a2 b2 rs W (SR.below HR.out HB0.out) (SR.below HK.out HB0.out) hn).mono ?_
 rintro e w1 ⟨rfl,hb⟩
 have HB1:=qH (HB0.out.trans (hb.mono HB0.out.size))
 clear hb
 go_wp2_with fail
 go_ret
 exact ⟨rfl,HB1.out⟩
theorem szRekey_any (on : Bool) (nd mn : Int) (r1 : Option Addr) (rn r2 : Nat) (rs : List Ev) (left : Int) (w : World) (h : ER w r1 rn r2 rs) (hn : rn <= 9223372036854775807) (hs : ∀ t,t < rn -> (rs.getD t evD).t.size <= maxLen) (hl0 : 0 <= left) (hl1 : left <= 1048576) :
 Calls Tryz.prog 16 #[.agg #[.bool on,.int .i64 nd,.int .i64 mn,.slice r1 rn r2],.int .i64 left] w (LeftEnv rn rs left w):=by
 have HR:=qH h
 have HS:=qH hs
 clear h hs
 obtain ⟨W,hW⟩ : ∃ W,W = w.alloc (.cells #[.bool on,.int .i64 nd,.int .i64 mn,.slice r1 rn r2] 32):=⟨_,rfl⟩
 have HB0 : Hid (Below w.heap.size w W):=qH (by rw [hW];repeat' (first | exact Below.refl _ _ | refine Below.alloc ?_ (by first | exact Nat.le_refl _ | (simp;done) | (simp;omega)) _))
 have HA0 : Hid (BoxC W (w.heap.size) [.bool on,.int .i64 nd,.int .i64 mn,.slice r1 rn r2]):=qH (by rw [hW];have:=(BoxC.made w #[.bool on,.int .i64 nd,.int .i64 mn,.slice r1 rn r2] 32);exact this)
 go_enter Tryz.func16,Tryz.ntmps16
 go_wp2_with fail
 rw [<- hW]
 clear hW
 refine (szEnvS_any r1 rn r2 rs left W (SR.below HR.out HB0.out) hn HS.out hl0 hl1).mono ?_
 rintro e w1 ⟨r,rfl,hr,hb⟩
 have HB1:=qH (HB0.out.trans (hb.mono HB0.out.size))
 clear hb
 rcases hr with rfl | ⟨h0,h1,h2,h3⟩
 · go_wp2_with fail
   go_ret
   exact ⟨-1,rfl,.inl rfl,HB1.out⟩
 · have hnn : ¬ r < 0:=by omega
   have H3:=qH h3
   clear h3
   go_wp2_with fail
   go_ret
   exact ⟨r,rfl,.inr ⟨h0,h1,h2,H3.out⟩,HB1.out⟩
theorem toVault_any (ds dt : ByteArray) (c0 c1 c2 c3 : Int) (op : Bool) (ma : ByteArray) (no : Int) (on : Bool) (nd mn : Int) (a1 : Option Addr) (n1 a3 : Nat) (a2 : Option Addr) (n2 a4 : Nat) (ts : List Tm) (is : List Im) (g1 : Option Addr) (gn g2 : Nat) (gs : List Ev) (r1 : Option Addr) (rn r2 : Nat) (rs : List Ev) (w : World) (h : VR w a1 n1 a3 a2 n2 a4 ts is g1 gn g2 gs r1 rn r2 rs) (hn1 : n1 <= 1048576) (hn2 : n2 <= 1048576) (hgn : gn <= 1048576) (hrn : rn <= 1048576) :
 Calls Tryz.prog 6 #[.agg #[.string ds,.string dt,.int .i64 c0,.int .i64 c1,.int .i64 c2,.int .i64 c3,.slice a1 n1 a3,.slice a2 n2 a4,.bool op,.string ma,.slice g1 gn g2,.int .i64 no,.bool on,.int .i64 nd,.int .i64 mn,.slice r1 rn r2]] w fun e w' => ∃ b1 b3 b2 b4 x1 x2 y1 y2,e = .returned (.agg #[.string ds,.string dt,.int .i64 c0,.int .i64 c1,.int .i64 c2,.int .i64 c3,.slice b1 n1 b3,.slice b2 n2 b4,.bool op,.string ma,.slice x1 gn x2,.int .i64 no,.bool on,.int .i64 nd,.int .i64 mn,.slice y1 rn y2]) /\ VO w' w.heap.size b1 n1 b3 b2 n2 b4 ts is x1 gn x2 gs y1 rn y2 rs /\ Below w.heap.size w w':=by
 have HR:=qH h
 clear h
 obtain ⟨W,hW⟩ : ∃ W,W = ((w.alloc (.cells #[.string ds,.string dt,.int .i64 c0,.int .i64 c1,.int .i64 c2,.int .i64 c3,.slice a1 n1 a3,.slice a2 n2 a4,.bool op,.string ma,.slice g1 gn g2,.int .i64 no,.bool on,.int .i64 nd,.int .i64 mn,.slice r1 rn r2] 34)).alloc (.cells #[.string ⟨#[]⟩,.string ⟨#[]⟩,.int .i64 0,.int .i64 0,.int .i64 0,.int .i64 0,.slice none 0 0,.slice none 0 0,.bool false,.string ⟨#[]⟩,.slice none 0 0,.int .i64 0,.bool false,.int .i64 0,.int .i64 0,.slice none 0 0] 48)).alloc (.cells #[.string ⟨#[]⟩,.string ⟨#[]⟩,.int .i64 0,.int .i64 0,.int .i64 0,.int .i64 0,.slice none 0 0,.slice none 0 0,.bool false,.string ⟨#[]⟩,.slice none 0 0,.int .i64 0,.bool false,.int .i64 0,.int .i64 0,.slice none 0 0] 48):=⟨_,rfl⟩
 have HB0 : Hid (Below w.heap.size w W):=qH (by rw [hW];repeat' (first | exact Below.refl _ _ | refine Below.alloc ?_ (by first | exact Nat.le_refl _ | (simp;done) | (simp;omega)) _))
 have HA0 : Hid (BoxC W (w.heap.size) [.string ds,.string dt,.int .i64 c0,.int .i64 c1,.int .i64 c2,.int .i64 c3,.slice a1 n1 a3,.slice a2 n2 a4,.bool op,.string ma,.slice g1 gn g2,.int .i64 no,.bool on,.int .i64 nd,.int .i64 mn,.slice r1 rn r2]):=qH (by rw [hW];have:=(((BoxC.made w #[.string ds,.string dt,.int .i64 c0,.int .i64 c1,.int .i64 c2,.int .i64 c3,.slice a1 n1 a3,.slice a2 n2 a4,.bool op,.string ma,.slice g1 gn g2,.int .i64 no,.bool on,.int .i64 nd,.int .i64 mn,.slice r1 rn r2] 34).alloc (.cells #[.string ⟨#[]⟩,.string ⟨#[]⟩,.int .i64 0,.int .i64 0,.int .i64 0,.int .i64 0,.slice none 0 0,.slice none 0 0,.bool false,.string ⟨#[]⟩,.slice none 0 0,.int .i64 0,.bool false,.int .i64 0,.int .i64 0,.slice none 0 0] 48)).alloc (.cells #[.string ⟨#[]⟩,.string ⟨#[]⟩,.int .i64 0,.int .i64 0,.int .i64 0,.int .i64 0,.slice none 0 0,.slice none 0 0,.bool false,.string ⟨#[]⟩,.slice none 0 0,.int .i64 0,.bool false,.int .i64 0,.int .i64 0,.slice none 0 0] 48));exact this)
 have HA1 : Hid (BoxC W (w.heap.size + 1) [.string ⟨#[]⟩,.string ⟨#[]⟩,.int .i64 0,.int .i64 0,.int .i64 0,.int .i64 0,.slice none 0 0,.slice none 0 0,.bool false,.string ⟨#[]⟩,.slice none 0 0,.int .i64 0,.bool false,.int .i64 0,.int .i64 0,.slice none 0 0]):=qH (by rw [hW];have:=((BoxC.made (w.alloc (.cells #[.string ds,.string dt,.int .i64 c0,.int .i64 c1,.int .i64 c2,.int .i64 c3,.slice a1 n1 a3,.slice a2 n2 a4,.bool op,.string ma,.slice g1 gn g2,.int .i64 no,.bool on,.int .i64 nd,.int .i64 mn,.slice r1 rn r2] 34)) #[.string ⟨#[]⟩,.string ⟨#[]⟩,.int .i64 0,.int .i64 0,.int .i64 0,.int .i64 0,.slice none 0 0,.slice none 0 0,.bool false,.string ⟨#[]⟩,.slice none 0 0,.int .i64 0,.bool false,.int .i64 0,.int .i64 0,.slice none 0 0] 48).alloc (.cells #[.string ⟨#[]⟩,.string ⟨#[]⟩,.int .i64 0,.int .i64 0,.int .i64 0,.int .i64 0,.slice none 0 0,.slice none 0 0,.bool false,.string ⟨#[]⟩,.slice none 0 0,.int .i64 0,.bool false,.int .i64 0,.int .i64 0,.slice none 0 0] 48));rw [World.size_alloc] at this;exact this)
 have HA2 : Hid (BoxC W (w.heap.size + 1 + 1) [.string ⟨#[]⟩,.string ⟨#[]⟩,.int .i64 0,.int .i64 0,.int .i64 0,.int .i64 0,.slice none 0 0,.slice none 0 0,.bool false,.string ⟨#[]⟩,.slice none 0 0,.int .i64 0,.bool false,.int .i64 0,.int .i64 0,.slice none 0 0]):=qH (by rw [hW];have:=(BoxC.made ((w.alloc (.cells #[.string ds,.string dt,.int .i64 c0,.int .i64 c1,.int .i64 c2,.int .i64 c3,.slice a1 n1 a3,.slice a2 n2 a4,.bool op,.string ma,.slice g1 gn g2,.int .i64 no,.bool on,.int .i64 nd,.int .i64 mn,.slice r1 rn r2] 34)).alloc (.cells #[.string ⟨#[]⟩,.string ⟨#[]⟩,.int .i64 0,.int .i64 0,.int .i64 0,.int .i64 0,.slice none 0 0,.slice none 0 0,.bool false,.string ⟨#[]⟩,.slice none 0 0,.int .i64 0,.bool false,.int .i64 0,.int .i64 0,.slice none 0 0] 48)) #[.string ⟨#[]⟩,.string ⟨#[]⟩,.int .i64 0,.int .i64 0,.int .i64 0,.int .i64 0,.slice none 0 0,.slice none 0 0,.bool false,.string ⟨#[]⟩,.slice none 0 0,.int .i64 0,.bool false,.int .i64 0,.int .i64 0,.slice none 0 0] 48);rw [World.size_alloc,World.size_alloc] at this;exact this)
 have HBS : Hid (w.heap.size + 1 + 1 < W.heap.size):=qH HA2.out.lt
 have HSZ : Hid (W.heap.size <= W.heap.size):=qH (Nat.le_refl _)
 go_enter Tryz.func6,Tryz.ntmps6
 go_upto_region 2 with fail
 rw [<- hW]
 clear hW
 have yA0:=HA0.out.cell 0 _ rfl
 have yA1:=HA0.out.cell 1 _ rfl
 go_wp2_with fail
 clear yA0 yA1
 refine (toDisk_any ds dt _).mono ?_
 rintro e v1 ⟨rfl,hb⟩
 have HW2:=qH (HB0.out.trans (hb.mono HB0.out.size))
 have HS3:=qH (Nat.le_trans HSZ.out hb.size)
 have HX4:=qH (HA0.out.below hb)
 have HX5:=qH (HA1.out.below hb)
 have HX6:=qH (HA2.out.below hb)
 clear hb HB0 HSZ HA0 HA1 HA2
 unfold dkV
 dsimp only
 have yA2:=HX4.out.cell 2 _ rfl
 have yA3:=HX4.out.cell 3 _ rfl
 have yA4:=HX4.out.cell 4 _ rfl
 have yA5:=HX4.out.cell 5 _ rfl
 have yA6:=HX4.out.cell 6 _ rfl
 have yA7:=HX4.out.cell 7 _ rfl
 have yB0:=HX6.out.cell 0 _ rfl
 have fB0:=HX6.out.free 0
 have yB1:=HX6.out.cell 1 _ rfl
 have fB1:=HX6.out.free 1
 obtain ⟨u7,hu7⟩ : ∃ u7,u7 = (v1.setCell ⟨w.heap.size + 1 + 1,0,none⟩ (.string ds)).setCell ⟨w.heap.size + 1 + 1,1,none⟩ (.string dt):=⟨_,rfl⟩
 have hu7p : u7 = putL v1 (w.heap.size + 1 + 1) [(0,.string ds),(1,.string dt)]:=hu7
 have hG : World.grownBy v1 u7 (some (w.heap.size + 1 + 1)):=by rw [hu7p];exact putL_grown _ _ _
 have HX9 : Hid (BoxC u7 (w.heap.size + 1 + 1) [.string ds,.string dt,.int .i64 0,.int .i64 0,.int .i64 0,.int .i64 0,.slice none 0 0,.slice none 0 0,.bool false,.string ⟨#[]⟩,.slice none 0 0,.int .i64 0,.bool false,.int .i64 0,.int .i64 0,.slice none 0 0]):=qH (by rw [hu7p];exact box_putL HX6.out [(0,.string ds),(1,.string dt)] (by simp))
 have HX10:=qH (HX4.out.grown hG (by simp <;> omega))
 have HX11:=qH (HX5.out.grown hG (by simp <;> omega))
 have HW12:=qH (grown_below HW2.out hG (by omega) HW2.out.size)
 have HS13:=qH (Nat.le_trans HS3.out hG.size)
 clear hG
 have HE8:=qH hu7
 clear HX6 HX4 HX5 HW2 HS3
 clear hu7p hu7
 go_wp2_with fail
 rw [<- HE8.out]
 clear yA2 yA3 yA4 yA5 yA6 yA7 yB0 fB0 yB1 fB1 HE8
 refine (toBook_any c0 c1 c2 c3 a1 a2 n1 n2 a3 a4 ts is _ (HR.out.b.below HW12.out) hn1 hn2).mono ?_
 rintro e v14 ⟨b1,b3,b2,b4,rfl,ho,hb⟩
 have HNK : Hid ((∀ q,(.slice b1 n1 b3 : Value).ownBlock = some q -> W.heap.size <= q) /\ (∀ q,(.slice b2 n2 b4 : Value).ownBlock = some q -> W.heap.size <= q)):=qH ⟨fun q hq => Nat.le_trans HS13.out (ho.t.lt q hq).1,fun q hq => Nat.le_trans HS13.out (ho.i.lt q hq).1⟩
 have HO15:=qH (ho.mono HW12.out.size)
 have HW16:=qH (HW12.out.trans (hb.mono HW12.out.size))
 have HS17:=qH (Nat.le_trans HS13.out hb.size)
 have HX18:=qH (HX10.out.below hb)
 have HX19:=qH (HX11.out.below hb)
 have HX20:=qH (HX9.out.below hb)
 clear hb HW12 HS13 HX10 HX11 HX9
 clear ho
 have yA8:=HX18.out.cell 8 _ rfl
 have yA9:=HX18.out.cell 9 _ rfl
 have yA10:=HX18.out.cell 10 _ rfl
 have yB2:=HX20.out.cell 2 _ rfl
 have fB2:=HX20.out.free 2
 have yB3:=HX20.out.cell 3 _ rfl
 have fB3:=HX20.out.free 3
 have yB4:=HX20.out.cell 4 _ rfl
 have fB4:=HX20.out.free 4
 have yB5:=HX20.out.cell 5 _ rfl
 have fB5:=HX20.out.free 5
 have yB6:=HX20.out.cell 6 _ rfl
 have fB6:=HX20.out.free 6
 have yB7:=HX20.out.cell 7 _ rfl
 have fB7:=HX20.out.free 7
 have yB8:=HX20.out.cell 8 _ rfl
 have fB8:=HX20.out.free 8
 have yB9:=HX20.out.cell 9 _ rfl
 have fB9:=HX20.out.free 9
 obtain ⟨u21,hu21⟩ : ∃ u21,u21 = (((((((v14.setCell ⟨w.heap.size + 1 + 1,2,none⟩ (.int .i64 c0)).setCell ⟨w.heap.size + 1 + 1,3,none⟩ (.int .i64 c1)).setCell ⟨w.heap.size + 1 + 1,4,none⟩ (.int .i64 c2)).setCell ⟨w.heap.size + 1 + 1,5,none⟩ (.int .i64 c3)).setCell ⟨w.heap.size + 1 + 1,6,none⟩ (.slice b1 n1 b3)).setCell ⟨w.heap.size + 1 + 1,7,none⟩ (.slice b2 n2 b4)).setCell ⟨w.heap.size + 1 + 1,8,none⟩ (.bool op)).setCell ⟨w.heap.size + 1 + 1,9,none⟩ (.string ma):=⟨_,rfl⟩
 have hu21p : u21 = putL v14 (w.heap.size + 1 + 1) [(2,.int .i64 c0),(3,.int .i64 c1),(4,.int .i64 c2),(5,.int .i64 c3),(6,.slice b1 n1 b3),(7,.slice b2 n2 b4),(8,.bool op),(9,.string ma)]:=hu21
 have hG : World.grownBy v14 u21 (some (w.heap.size + 1 + 1)):=by rw [hu21p];exact putL_grown _ _ _
 have HX23 : Hid (BoxC u21 (w.heap.size + 1 + 1) [.string ds,.string dt,.int .i64 c0,.int .i64 c1,.int .i64 c2,.int .i64 c3,.slice b1 n1 b3,.slice b2 n2 b4,.bool op,.string ma,.slice none 0 0,.int .i64 0,.bool false,.int .i64 0,.int .i64 0,.slice none 0 0]):=qH (by rw [hu21p];exact box_putL HX20.out [(2,.int .i64 c0),(3,.int .i64 c1),(4,.int .i64 c2),(5,.int .i64 c3),(6,.slice b1 n1 b3),(7,.slice b2 n2 b4),(8,.bool op),(9,.string ma)] (by simp))
 have HX24:=qH (HX18.out.grown hG (by simp <;> omega))
 have HX25:=qH (HX19.out.grown hG (by simp <;> omega))
 have HO26:=qH (show BkO u21 w.heap.size b1 n1 b3 b2 n2 b4 ts is from ⟨own_apartP HO15.out.t hG (fun q hq => by have:=HNK.out.1 q hq;have:=HBS.out;omega),own_apartP HO15.out.i hG (fun q hq => by have:=HNK.out.2 q hq;have:=HBS.out;omega)⟩)
 have HW27:=qH (grown_below HW16.out hG (by omega) HW16.out.size)
 have HS28:=qH (Nat.le_trans HS17.out hG.size)
 clear hG
 have HE22:=qH hu21
 clear HX20 HX18 HX19 HO15 HW16 HS17
 clear hu21p hu21
 go_wp2_with fail
 rw [<- HE22.out]
 clear yA8 yA9 yA10 yB2 fB2 yB3 fB3 yB4 fB4 yB5 fB5 yB6 fB6 yB7 fB7 yB8 fB8 yB9 fB9 HE22
 refine (toEnvS_any g1 gn g2 gs _ (SR.below HR.out.g HW27.out) hgn).mono ?_
 rintro e v29 ⟨x1,x2,rfl,ho,hb⟩
 have HNG : Hid (∀ q,(.slice x1 gn x2 : Value).ownBlock = some q -> W.heap.size <= q):=qH (fun q hq => Nat.le_trans HS28.out (ho.lt q hq).1)
 have HO30:=qH (own_mono ho HW27.out.size)
 have HW31:=qH (HW27.out.trans (hb.mono HW27.out.size))
 have HS32:=qH (Nat.le_trans HS28.out hb.size)
 have HX33:=qH (HX24.out.below hb)
 have HX34:=qH (HX25.out.below hb)
 have HX35:=qH (HX23.out.below hb)
 have HO36:=qH (HO26.out.below hb)
 clear hb HW27 HS28 HX24 HX25 HX23 HO26
 clear ho
 have yA11:=HX33.out.cell 11 _ rfl
 have yA12:=HX33.out.cell 12 _ rfl
 have yA13:=HX33.out.cell 13 _ rfl
 have yA14:=HX33.out.cell 14 _ rfl
 have yA15:=HX33.out.cell 15 _ rfl
 have yB10:=HX35.out.cell 10 _ rfl
 have fB10:=HX35.out.free 10
 have yB11:=HX35.out.cell 11 _ rfl
 have fB11:=HX35.out.free 11
 obtain ⟨u37,hu37⟩ : ∃ u37,u37 = (v29.setCell ⟨w.heap.size + 1 + 1,10,none⟩ (.slice x1 gn x2)).setCell ⟨w.heap.size + 1 + 1,11,none⟩ (.int .i64 no):=⟨_,rfl⟩
 have hu37p : u37 = putL v29 (w.heap.size + 1 + 1) [(10,.slice x1 gn x2),(11,.int .i64 no)]:=hu37
 have hG : World.grownBy v29 u37 (some (w.heap.size + 1 + 1)):=by rw [hu37p];exact putL_grown _ _ _
 have HX39 : Hid (BoxC u37 (w.heap.size + 1 + 1) [.string ds,.string dt,.int .i64 c0,.int .i64 c1,.int .i64 c2,.int .i64 c3,.slice b1 n1 b3,.slice b2 n2 b4,.bool op,.string ma,.slice x1 gn x2,.int .i64 no,.bool false,.int .i64 0,.int .i64 0,.slice none 0 0]):=qH (by rw [hu37p];exact box_putL HX35.out [(10,.slice x1 gn x2),(11,.int .i64 no)] (by simp))
 have HX40:=qH (HX33.out.grown hG (by simp <;> omega))
 have HX41:=qH (HX34.out.grown hG (by simp <;> omega))
 have HO42:=qH (show BkO u37 w.heap.size b1 n1 b3 b2 n2 b4 ts is from ⟨own_apartP HO36.out.t hG (fun q hq => by have:=HNK.out.1 q hq;have:=HBS.out;omega),own_apartP HO36.out.i hG (fun q hq => by have:=HNK.out.2 q hq;have:=HBS.out;omega)⟩)
 have HO43:=qH (own_apartP HO30.out hG (fun q hq => by have:=HNG.out q hq;have:=HBS.out;omega))
 have HW44:=qH (grown_below HW31.out hG (by omega) HW31.out.size)
 have HS45:=qH (Nat.le_trans HS32.out hG.size)
 clear hG
 have HE38:=qH hu37
 clear HX35 HX33 HX34 HO36 HO30 HW31 HS32
 clear hu37p hu37
 go_wp2_with fail
 rw [<- HE38.out]
 clear yA11 yA12 yA13 yA14 yA15 yB10 fB10 yB11 fB11 HE38
 have HGB:=HO43
 refine (toRekey_any on nd mn r1 rn r2 rs _ (SR.below HR.out.r HW44.out) hrn).mono ?_
 rintro e v46 ⟨y1,y2,rfl,ho,hb⟩
 have HDJ:=qH (own_disj HGB.out ho)
 clear HGB
 have HNY : Hid (∀ q,(.slice y1 rn y2 : Value).ownBlock = some q -> W.heap.size <= q):=qH (fun q hq => Nat.le_trans HS45.out (ho.lt q hq).1)
 have HO47:=qH (own_mono ho HW44.out.size)
 have HW48:=qH (HW44.out.trans (hb.mono HW44.out.size))
 have HS49:=qH (Nat.le_trans HS45.out hb.size)
 have HX50:=qH (HX40.out.below hb)
 have HX51:=qH (HX41.out.below hb)
 have HX52:=qH (HX39.out.below hb)
 have HO53:=qH (HO42.out.below hb)
 have HO54:=qH (own_below HO43.out hb)
 clear hb HW44 HS45 HX40 HX41 HX39 HO42 HO43
 clear ho
 have yB0:=HX52.out.cell 0 _ rfl
 have yB1:=HX52.out.cell 1 _ rfl
 have yB2:=HX52.out.cell 2 _ rfl
 have yB3:=HX52.out.cell 3 _ rfl
 have yB4:=HX52.out.cell 4 _ rfl
 have yB5:=HX52.out.cell 5 _ rfl
 have yB6:=HX52.out.cell 6 _ rfl
 have yB7:=HX52.out.cell 7 _ rfl
 have yB8:=HX52.out.cell 8 _ rfl
 have yB9:=HX52.out.cell 9 _ rfl
 have yB10:=HX52.out.cell 10 _ rfl
 have yB11:=HX52.out.cell 11 _ rfl
 have yB12:=HX52.out.cell 12 _ rfl
 have fB12:=HX52.out.free 12
 have yB13:=HX52.out.cell 13 _ rfl
 have fB13:=HX52.out.free 13
 have yB14:=HX52.out.cell 14 _ rfl
 have fB14:=HX52.out.free 14
 have yB15:=HX52.out.cell 15 _ rfl
 have fB15:=HX52.out.free 15
 have yC0:=HX51.out.cell 0 _ rfl
 have fC0:=HX51.out.free 0
 have yC1:=HX51.out.cell 1 _ rfl
 have fC1:=HX51.out.free 1
 have yC2:=HX51.out.cell 2 _ rfl
 have fC2:=HX51.out.free 2
 have yC3:=HX51.out.cell 3 _ rfl
 have fC3:=HX51.out.free 3
 have yC4:=HX51.out.cell 4 _ rfl
 have fC4:=HX51.out.free 4
 have yC5:=HX51.out.cell 5 _ rfl
 have fC5:=HX51.out.free 5
 have yC6:=HX51.out.cell 6 _ rfl
 have fC6:=HX51.out.free 6
 have yC7:=HX51.out.cell 7 _ rfl
 have fC7:=HX51.out.free 7
 have yC8:=HX51.out.cell 8 _ rfl
 have fC8:=HX51.out.free 8
 have yC9:=HX51.out.cell 9 _ rfl
 have fC9:=HX51.out.free 9
 have yC10:=HX51.out.cell 10 _ rfl
 have fC10:=HX51.out.free 10
 have yC11:=HX51.out.cell 11 _ rfl
 have fC11:=HX51.out.free 11
 have yC12:=HX51.out.cell 12 _ rfl
 have fC12:=HX51.out.free 12
 have yC13:=HX51.out.cell 13 _ rfl
 have fC13:=HX51.out.free 13
 have yC14:=HX51.out.cell 14 _ rfl
 have fC14:=HX51.out.free 14
 have yC15:=HX51.out.cell 15 _ rfl
 have fC15:=HX51.out.free 15
 obtain ⟨u55,hu55⟩ : ∃ u55,u55 = (((((((((((((((((((v46.setCell ⟨w.heap.size + 1 + 1,12,none⟩ (.bool on)).setCell ⟨w.heap.size + 1 + 1,13,none⟩ (.int .i64 nd)).setCell ⟨w.heap.size + 1 + 1,14,none⟩ (.int .i64 mn)).setCell ⟨w.heap.size + 1 + 1,15,none⟩ (.slice y1 rn y2)).setCell ⟨w.heap.size + 1,0,none⟩ (.string ds)).setCell ⟨w.heap.size + 1,1,none⟩ (.string dt)).setCell ⟨w.heap.size + 1,2,none⟩ (.int .i64 c0)).setCell ⟨w.heap.size + 1,3,none⟩ (.int .i64 c1)).setCell ⟨w.heap.size + 1,4,none⟩ (.int .i64 c2)).setCell ⟨w.heap.size + 1,5,none⟩ (.int .i64 c3)).setCell ⟨w.heap.size + 1,6,none⟩ (.slice b1 n1 b3)).setCell ⟨w.heap.size + 1,7,none⟩ (.slice b2 n2 b4)).setCell ⟨w.heap.size + 1,8,none⟩ (.bool op)).setCell ⟨w.heap.size + 1,9,none⟩ (.string ma)).setCell ⟨w.heap.size + 1,10,none⟩ (.slice x1 gn x2)).setCell ⟨w.heap.size + 1,11,none⟩ (.int .i64 no)).setCell ⟨w.heap.size + 1,12,none⟩ (.bool on)).setCell ⟨w.heap.size + 1,13,none⟩ (.int .i64 nd)).setCell ⟨w.heap.size + 1,14,none⟩ (.int .i64 mn)).setCell ⟨w.heap.size + 1,15,none⟩ (.slice y1 rn y2):=⟨_,rfl⟩
 obtain ⟨m57,hm57⟩ : ∃ m57,m57 = putL v46 (w.heap.size + 1 + 1) [(12,.bool on),(13,.int .i64 nd),(14,.int .i64 mn),(15,.slice y1 rn y2)]:=⟨_,rfl⟩
 have hm57p:=hm57
 have hG : World.grownBy v46 m57 (some (w.heap.size + 1 + 1)):=by rw [hm57p];exact putL_grown _ _ _
 have HX58 : Hid (BoxC m57 (w.heap.size + 1 + 1) [.string ds,.string dt,.int .i64 c0,.int .i64 c1,.int .i64 c2,.int .i64 c3,.slice b1 n1 b3,.slice b2 n2 b4,.bool op,.string ma,.slice x1 gn x2,.int .i64 no,.bool on,.int .i64 nd,.int .i64 mn,.slice y1 rn y2]):=qH (by rw [hm57p];exact box_putL HX52.out [(12,.bool on),(13,.int .i64 nd),(14,.int .i64 mn),(15,.slice y1 rn y2)] (by simp))
 have HX59:=qH (HX50.out.grown hG (by simp <;> omega))
 have HX60:=qH (HX51.out.grown hG (by simp <;> omega))
 have HO61:=qH (show BkO m57 w.heap.size b1 n1 b3 b2 n2 b4 ts is from ⟨own_apartP HO53.out.t hG (fun q hq => by have:=HNK.out.1 q hq;have:=HBS.out;omega),own_apartP HO53.out.i hG (fun q hq => by have:=HNK.out.2 q hq;have:=HBS.out;omega)⟩)
 have HO62:=qH (own_apartP HO54.out hG (fun q hq => by have:=HNG.out q hq;have:=HBS.out;omega))
 have HO63:=qH (own_apartP HO47.out hG (fun q hq => by have:=HNY.out q hq;have:=HBS.out;omega))
 have HW64:=qH (grown_below HW48.out hG (by omega) HW48.out.size)
 have HS65:=qH (Nat.le_trans HS49.out hG.size)
 clear hG
 have hu55p : u55 = putL m57 (w.heap.size + 1) [(0,.string ds),(1,.string dt),(2,.int .i64 c0),(3,.int .i64 c1),(4,.int .i64 c2),(5,.int .i64 c3),(6,.slice b1 n1 b3),(7,.slice b2 n2 b4),(8,.bool op),(9,.string ma),(10,.slice x1 gn x2),(11,.int .i64 no),(12,.bool on),(13,.int .i64 nd),(14,.int .i64 mn),(15,.slice y1 rn y2)]:=by rw [hu55,hm57];rfl
 have hG : World.grownBy m57 u55 (some (w.heap.size + 1)):=by rw [hu55p];exact putL_grown _ _ _
 have HX66 : Hid (BoxC u55 (w.heap.size + 1) [.string ds,.string dt,.int .i64 c0,.int .i64 c1,.int .i64 c2,.int .i64 c3,.slice b1 n1 b3,.slice b2 n2 b4,.bool op,.string ma,.slice x1 gn x2,.int .i64 no,.bool on,.int .i64 nd,.int .i64 mn,.slice y1 rn y2]):=qH (by rw [hu55p];exact box_putL HX60.out [(0,.string ds),(1,.string dt),(2,.int .i64 c0),(3,.int .i64 c1),(4,.int .i64 c2),(5,.int .i64 c3),(6,.slice b1 n1 b3),(7,.slice b2 n2 b4),(8,.bool op),(9,.string ma),(10,.slice x1 gn x2),(11,.int .i64 no),(12,.bool on),(13,.int .i64 nd),(14,.int .i64 mn),(15,.slice y1 rn y2)] (by simp))
 have HX67:=qH (HX59.out.grown hG (by simp <;> omega))
 have HX68:=qH (HX58.out.grown hG (by simp <;> omega))
 have HO69:=qH (show BkO u55 w.heap.size b1 n1 b3 b2 n2 b4 ts is from ⟨own_apartP HO61.out.t hG (fun q hq => by have:=HNK.out.1 q hq;have:=HBS.out;omega),own_apartP HO61.out.i hG (fun q hq => by have:=HNK.out.2 q hq;have:=HBS.out;omega)⟩)
 have HO70:=qH (own_apartP HO62.out hG (fun q hq => by have:=HNG.out q hq;have:=HBS.out;omega))
 have HO71:=qH (own_apartP HO63.out hG (fun q hq => by have:=HNY.out q hq;have:=HBS.out;omega))
 have HW72:=qH (grown_below HW64.out hG (by omega) HW64.out.size)
 have HS73:=qH (Nat.le_trans HS65.out hG.size)
 clear hG
 have HE56:=qH hu55
 clear HX52 HX50 HX51 HO53 HO54 HO47 HW48 HS49 HX60 HX59 HX58 HO61 HO62 HO63 HW64 HS65
 clear hu55p hu55
 go_wp2_with fail
 rw [<- HE56.out]
 clear yB0 yB1 yB2 yB3 yB4 yB5 yB6 yB7 yB8 yB9 yB10 yB11 yB12 fB12 yB13 fB13 yB14 fB14 yB15 fB15 yC0 fC0 yC1 fC1 yC2 fC2 yC3 fC3 yC4 fC4 yC5 fC5 yC6 fC6 yC7 fC7 yC8 fC8 yC9 fC9 yC10 fC10 yC11 fC11 yC12 fC12 yC13 fC13 yC14 fC14 yC15 fC15 HE56
 have g0:=HX66.out.cell 0 _ rfl
 have g1:=HX66.out.cell 1 _ rfl
 have g2:=HX66.out.cell 2 _ rfl
 have g3:=HX66.out.cell 3 _ rfl
 have g4:=HX66.out.cell 4 _ rfl
 have g5:=HX66.out.cell 5 _ rfl
 have g6:=HX66.out.cell 6 _ rfl
 have g7:=HX66.out.cell 7 _ rfl
 have g8:=HX66.out.cell 8 _ rfl
 have g9:=HX66.out.cell 9 _ rfl
 have g10:=HX66.out.cell 10 _ rfl
 have g11:=HX66.out.cell 11 _ rfl
 have g12:=HX66.out.cell 12 _ rfl
 have g13:=HX66.out.cell 13 _ rfl
 have g14:=HX66.out.cell 14 _ rfl
 have g15:=HX66.out.cell 15 _ rfl
 exact bodyPost_ret (v:=.agg #[.string ds,.string dt,.int .i64 c0,.int .i64 c1,.int .i64 c2,.int .i64 c3,.slice b1 n1 b3,.slice b2 n2 b4,.bool op,.string ma,.slice x1 gn x2,.int .i64 no,.bool on,.int .i64 nd,.int .i64 mn,.slice y1 rn y2]) (by simp [results,Tryz.results6,go_sem,g0,g1,g2,g3,g4,g5,g6,g7,g8,g9,g10,g11,g12,g13,g14,g15]) rfl ⟨b1,b3,b2,b4,x1,x2,y1,y2,rfl,⟨HO69.out,HO70.out,HO71.out,HDJ.out⟩,HW72.out⟩
theorem eqVault_same (ds dt : ByteArray) (c0 c1 c2 c3 : Int) (op : Bool) (ma : ByteArray) (no : Int) (on : Bool) (nd mn : Int) (a1 : Option Addr) (n1 a3 : Nat) (a2 : Option Addr) (n2 a4 : Nat) (ts : List Tm) (is : List Im) (g1 : Option Addr) (gn g2 : Nat) (gs : List Ev) (r1 : Option Addr) (rn r2 : Nat) (rs : List Ev) (b1 : Option Addr) (b3 : Nat) (b2 : Option Addr) (b4 : Nat) (x1 : Option Addr) (x2 : Nat) (y1 : Option Addr) (y2 : Nat) (w : World) (h : VR w a1 n1 a3 a2 n2 a4 ts is g1 gn g2 gs r1 rn r2 rs) (k : VR w b1 n1 b3 b2 n2 b4 ts is x1 gn x2 gs y1 rn y2 rs) (hn1 : n1 <= 1048576) (hn2 : n2 <= 1048576) (hgn : gn <= 1048576) (hrn : rn <= 1048576) :
 Calls Tryz.prog 9 #[.agg #[.string ds,.string dt,.int .i64 c0,.int .i64 c1,.int .i64 c2,.int .i64 c3,.slice a1 n1 a3,.slice a2 n2 a4,.bool op,.string ma,.slice g1 gn g2,.int .i64 no,.bool on,.int .i64 nd,.int .i64 mn,.slice r1 rn r2],.agg #[.string ds,.string dt,.int .i64 c0,.int .i64 c1,.int .i64 c2,.int .i64 c3,.slice b1 n1 b3,.slice b2 n2 b4,.bool op,.string ma,.slice x1 gn x2,.int .i64 no,.bool on,.int .i64 nd,.int .i64 mn,.slice y1 rn y2]] w fun e w' => e = .returned (.bool true) /\ Below w.heap.size w w':=by
 have HR:=qH h
 have HK:=qH k
 clear h k
 obtain ⟨W,hW⟩ : ∃ W,W = (w.alloc (.cells #[.string ds,.string dt,.int .i64 c0,.int .i64 c1,.int .i64 c2,.int .i64 c3,.slice a1 n1 a3,.slice a2 n2 a4,.bool op,.string ma,.slice g1 gn g2,.int .i64 no,.bool on,.int .i64 nd,.int .i64 mn,.slice r1 rn r2] 48)).alloc (.cells #[.string ds,.string dt,.int .i64 c0,.int .i64 c1,.int .i64 c2,.int .i64 c3,.slice b1 n1 b3,.slice b2 n2 b4,.bool op,.string ma,.slice x1 gn x2,.int .i64 no,.bool on,.int .i64 nd,.int .i64 mn,.slice y1 rn y2] 48):=⟨_,rfl⟩
 have HB0 : Hid (Below w.heap.size w W):=qH (by rw [hW];repeat' (first | exact Below.refl _ _ | refine Below.alloc ?_ (by first | exact Nat.le_refl _ | (simp;done) | (simp;omega)) _))
 have HA0 : Hid (BoxC W (w.heap.size) [.string ds,.string dt,.int .i64 c0,.int .i64 c1,.int .i64 c2,.int .i64 c3,.slice a1 n1 a3,.slice a2 n2 a4,.bool op,.string ma,.slice g1 gn g2,.int .i64 no,.bool on,.int .i64 nd,.int .i64 mn,.slice r1 rn r2]):=qH (by rw [hW];have:=((BoxC.made w #[.string ds,.string dt,.int .i64 c0,.int .i64 c1,.int .i64 c2,.int .i64 c3,.slice a1 n1 a3,.slice a2 n2 a4,.bool op,.string ma,.slice g1 gn g2,.int .i64 no,.bool on,.int .i64 nd,.int .i64 mn,.slice r1 rn r2] 48).alloc (.cells #[.string ds,.string dt,.int .i64 c0,.int .i64 c1,.int .i64 c2,.int .i64 c3,.slice b1 n1 b3,.slice b2 n2 b4,.bool op,.string ma,.slice x1 gn x2,.int .i64 no,.bool on,.int .i64 nd,.int .i64 mn,.slice y1 rn y2] 48));exact this)
 have HA1 : Hid (BoxC W (w.heap.size + 1) [.string ds,.string dt,.int .i64 c0,.int .i64 c1,.int .i64 c2,.int .i64 c3,.slice b1 n1 b3,.slice b2 n2 b4,.bool op,.string ma,.slice x1 gn x2,.int .i64 no,.bool on,.int .i64 nd,.int .i64 mn,.slice y1 rn y2]):=qH (by rw [hW];have:=(BoxC.made (w.alloc (.cells #[.string ds,.string dt,.int .i64 c0,.int .i64 c1,.int .i64 c2,.int .i64 c3,.slice a1 n1 a3,.slice a2 n2 a4,.bool op,.string ma,.slice g1 gn g2,.int .i64 no,.bool on,.int .i64 nd,.int .i64 mn,.slice r1 rn r2] 48)) #[.string ds,.string dt,.int .i64 c0,.int .i64 c1,.int .i64 c2,.int .i64 c3,.slice b1 n1 b3,.slice b2 n2 b4,.bool op,.string ma,.slice x1 gn x2,.int .i64 no,.bool on,.int .i64 nd,.int .i64 mn,.slice y1 rn y2] 48);rw [World.size_alloc] at this;exact this)
 have HBS : Hid (w.heap.size + 1 < W.heap.size):=qH HA1.out.lt
 go_enter Tryz.func9,Tryz.ntmps9
 go_upto_region 1 with fail
 rw [<- hW]
 clear hW
 have yA0:=HA0.out.cell 0 _ rfl
 have yA1:=HA0.out.cell 1 _ rfl
 have yB0:=HA1.out.cell 0 _ rfl
 have yB1:=HA1.out.cell 1 _ rfl
 go_wp2_with fail
 clear yA0 yA1 yB0 yB1
 refine (eqDisk_same ds dt _).mono ?_
 rintro e v1 ⟨rfl,hb⟩
 have HW2:=qH (HB0.out.trans (hb.mono HB0.out.size))
 have HX3:=qH (HA0.out.below hb)
 have HX4:=qH (HA1.out.below hb)
 clear hb HB0 HA0 HA1
 have yA2:=HX3.out.cell 2 _ rfl
 have yA3:=HX3.out.cell 3 _ rfl
 have yA4:=HX3.out.cell 4 _ rfl
 have yA5:=HX3.out.cell 5 _ rfl
 have yA6:=HX3.out.cell 6 _ rfl
 have yA7:=HX3.out.cell 7 _ rfl
 have yB2:=HX4.out.cell 2 _ rfl
 have yB3:=HX4.out.cell 3 _ rfl
 have yB4:=HX4.out.cell 4 _ rfl
 have yB5:=HX4.out.cell 5 _ rfl
 have yB6:=HX4.out.cell 6 _ rfl
 have yB7:=HX4.out.cell 7 _ rfl
 go_wp2_with fail
 clear yA2 yA3 yA4 yA5 yA6 yA7 yB2 yB3 yB4 yB5 yB6 yB7
 refine (eqBook_same c0 c1 c2 c3 a1 a2 b1 b2 n1 n2 a3 a4 b3 b4 ts is _ (HR.out.b.below HW2.out) (HK.out.b.below HW2.out) hn1 hn2).mono ?_
 rintro e v5 ⟨rfl,hb⟩
 have HW6:=qH (HW2.out.trans (hb.mono HW2.out.size))
 have HX7:=qH (HX3.out.below hb)
 have HX8:=qH (HX4.out.below hb)
 clear hb HW2 HX3 HX4
 have yA8:=HX7.out.cell 8 _ rfl
 have yA9:=HX7.out.cell 9 _ rfl
 have yA10:=HX7.out.cell 10 _ rfl
 have yB8:=HX8.out.cell 8 _ rfl
 have yB9:=HX8.out.cell 9 _ rfl
 have yB10:=HX8.out.cell 10 _ rfl
 go_wp2_with fail
 clear yA8 yA9 yA10 yB8 yB9 yB10
 refine (eqEnvS_same g1 x1 gn g2 x2 gs _ (SR.below HR.out.g HW6.out) (SR.below HK.out.g HW6.out) hgn).mono ?_
 rintro e v9 ⟨rfl,hb⟩
 have HW10:=qH (HW6.out.trans (hb.mono HW6.out.size))
 have HX11:=qH (HX7.out.below hb)
 have HX12:=qH (HX8.out.below hb)
 clear hb HW6 HX7 HX8
 have yA11:=HX11.out.cell 11 _ rfl
 have yA12:=HX11.out.cell 12 _ rfl
 have yA13:=HX11.out.cell 13 _ rfl
 have yA14:=HX11.out.cell 14 _ rfl
 have yA15:=HX11.out.cell 15 _ rfl
 have yB11:=HX12.out.cell 11 _ rfl
 have yB12:=HX12.out.cell 12 _ rfl
 have yB13:=HX12.out.cell 13 _ rfl
 have yB14:=HX12.out.cell 14 _ rfl
 have yB15:=HX12.out.cell 15 _ rfl
 go_wp2_with fail
 clear yA11 yA12 yA13 yA14 yA15 yB11 yB12 yB13 yB14 yB15
 refine (eqRekey_same on nd mn r1 y1 rn r2 y2 rs _ (SR.below HR.out.r HW10.out) (SR.below HK.out.r HW10.out) hrn).mono ?_
 rintro e v13 ⟨rfl,hb⟩
 have HW14:=qH (HW10.out.trans (hb.mono HW10.out.size))
 have HX15:=qH (HX11.out.below hb)
 have HX16:=qH (HX12.out.below hb)
 clear hb HW10 HX11 HX12
 go_wp2_with fail
 go_ret
 exact ⟨rfl,HW14.out⟩
theorem szDiskV_any (s t : ByteArray) (w : World) (hs : s.size <= maxLen) (ht : t.size <= maxLen) :
 Calls Tryz.prog 13 #[.agg #[.string s,.string t],.int .i64 1048576] w fun e w' => (∃ r,e = .returned (.int .i64 r) /\ (r = -1 ∨ (0 <= r /\ r <= 1048576 /\ s.size + t.size <= 1048576))) /\ Below w.heap.size w w':=by
 unfold maxLen at hs ht
 have HB : Hid (Below w.heap.size w (w.alloc (.cells #[.string s,.string t] 23))):=qH ((Below.refl _ _).alloc (Nat.le_refl _) _)
 have hw : IntKind.i64.wrap (1048576 - (s.size : Int)) = 1048576 - (s.size : Int):=by rw [IntWalk.i64_in _ (by omega)]
 by_cases h : (s.size : Int) <= 1048576
 · have h2 : ¬ 1048576 - (s.size : Int) < 0:=by omega
   have hw2 : IntKind.i64.wrap (1048576 - (s.size : Int) - (t.size : Int)) = 1048576 - (s.size : Int) - (t.size : Int):=by rw [IntWalk.i64_in _ (by omega)]
   by_cases h3 : (s.size : Int) + t.size <= 1048576
   · have h4 : ¬ 1048576 - (s.size : Int) - (t.size : Int) < 0:=by omega
     go_enter Tryz.func13,Tryz.ntmps13
     go_wp2_with fail
     go_ret
     exact ⟨⟨_,rfl,.inr ⟨by omega,by omega,by omega⟩⟩,HB.out⟩
   · have h4 : 1048576 - (s.size : Int) - (t.size : Int) < 0:=by omega
     go_enter Tryz.func13,Tryz.ntmps13
     go_wp2_with fail
     go_ret
     exact ⟨⟨_,rfl,.inl rfl⟩,HB.out⟩
 · have h2 : 1048576 - (s.size : Int) < 0:=by omega
   go_enter Tryz.func13,Tryz.ntmps13
   go_wp2_with fail
   go_ret
   exact ⟨⟨_,rfl,.inl rfl⟩,HB.out⟩
def LeftVault (ds dt ma : ByteArray) (n1 n2 gn rn : Nat) (ts : List Tm) (is : List Im) (gs rs : List Ev) (w : World) (e : Ending) (w' : World) : Prop :=
 ∃ r : Int,e = .returned (.int .i64 r) /\ (r = -1 ∨ (0 <= r /\ r <= 1048576 /\ (ds.size + dt.size <= 1048576 /\ ma.size <= 1048576) /\ (n1 <= 1048576 /\ n2 <= 1048576 /\ gn <= 1048576 /\ rn <= 1048576) /\ (∀ t,t < gn -> (gs.getD t evD).t.size <= 1048576) /\ (∀ t,t < rn -> (rs.getD t evD).t.size <= 1048576))) /\ Below w.heap.size w w'
theorem szVault_any (ds dt : ByteArray) (c0 c1 c2 c3 : Int) (op : Bool) (ma : ByteArray) (no : Int) (on : Bool) (nd mn : Int) (a1 : Option Addr) (n1 a3 : Nat) (a2 : Option Addr) (n2 a4 : Nat) (ts : List Tm) (is : List Im) (g1 : Option Addr) (gn g2 : Nat) (gs : List Ev) (r1 : Option Addr) (rn r2 : Nat) (rs : List Ev) (w : World) (h : VR w a1 n1 a3 a2 n2 a4 ts is g1 gn g2 gs r1 rn r2 rs) (wd : ds.size <= maxLen /\ dt.size <= maxLen) (wm : ma.size <= maxLen) (wn : n1 <= maxLen /\ n2 <= maxLen /\ gn <= maxLen /\ rn <= maxLen) (wt : ∀ t,t < n1 -> (ts.getD t tmD).lk.size <= maxLen) (wi : ∀ t,t < n2 -> (is.getD t imD).nm.size <= maxLen /\ (is.getD t imD).bd.size <= maxLen) (wg : ∀ t,t < gn -> (gs.getD t evD).t.size <= maxLen) (wr : ∀ t,t < rn -> (rs.getD t evD).t.size <= maxLen) :
 Calls Tryz.prog 4 #[.agg #[.string ds,.string dt,.int .i64 c0,.int .i64 c1,.int .i64 c2,.int .i64 c3,.slice a1 n1 a3,.slice a2 n2 a4,.bool op,.string ma,.slice g1 gn g2,.int .i64 no,.bool on,.int .i64 nd,.int .i64 mn,.slice r1 rn r2],.int .i64 1048576] w (LeftVault ds dt ma n1 n2 gn rn ts is gs rs w):=by
 have HR:=qH h
 have WD:=qH wd
 have WM:=qH (show ma.size <= 9223372036854775807 by unfold maxLen at wm;omega)
 have WN:=qH (show n1 <= 9223372036854775807 /\ n2 <= 9223372036854775807 /\ gn <= 9223372036854775807 /\ rn <= 9223372036854775807 by unfold maxLen at wn;omega)
 have WT:=qH wt
 have WI:=qH wi
 have WG:=qH wg
 have WR:=qH wr
 clear h wd wm wn wt wi wg wr
 obtain ⟨W,hW⟩ : ∃ W,W = w.alloc (.cells #[.string ds,.string dt,.int .i64 c0,.int .i64 c1,.int .i64 c2,.int .i64 c3,.slice a1 n1 a3,.slice a2 n2 a4,.bool op,.string ma,.slice g1 gn g2,.int .i64 no,.bool on,.int .i64 nd,.int .i64 mn,.slice r1 rn r2] 34):=⟨_,rfl⟩
 have HB0 : Hid (Below w.heap.size w W):=qH (by rw [hW];repeat' (first | exact Below.refl _ _ | refine Below.alloc ?_ (by first | exact Nat.le_refl _ | (simp;done) | (simp;omega)) _))
 have HA0 : Hid (BoxC W (w.heap.size) [.string ds,.string dt,.int .i64 c0,.int .i64 c1,.int .i64 c2,.int .i64 c3,.slice a1 n1 a3,.slice a2 n2 a4,.bool op,.string ma,.slice g1 gn g2,.int .i64 no,.bool on,.int .i64 nd,.int .i64 mn,.slice r1 rn r2]):=qH (by rw [hW];have:=(BoxC.made w #[.string ds,.string dt,.int .i64 c0,.int .i64 c1,.int .i64 c2,.int .i64 c3,.slice a1 n1 a3,.slice a2 n2 a4,.bool op,.string ma,.slice g1 gn g2,.int .i64 no,.bool on,.int .i64 nd,.int .i64 mn,.slice r1 rn r2] 34);exact this)
 go_enter Tryz.func4,Tryz.ntmps4
 go_upto_region 1 with fail
 rw [<- hW]
 clear hW
 have yA0:=HA0.out.cell 0 _ rfl
 have yA1:=HA0.out.cell 1 _ rfl
 go_wp2_with fail
 clear yA0 yA1
 refine (szDiskV_any ds dt _ WD.out.1 WD.out.2).mono ?_
 rintro e v1 ⟨⟨q1,rfl,hq1⟩,hb⟩
 have HW2:=qH (HB0.out.trans (hb.mono HB0.out.size))
 have HX3:=qH (HA0.out.below hb)
 clear hb HB0 HA0
 rcases hq1 with rfl | ⟨p10,p11,hds⟩
 · go_wp2_with fail
   go_ret
   exact ⟨-1,rfl,.inl rfl,HW2.out⟩
 have HDS:=qH hds
 have hnn1 : ¬ q1 < 0:=by omega
 clear hds
 have yA2:=HX3.out.cell 2 _ rfl
 have yA3:=HX3.out.cell 3 _ rfl
 have yA4:=HX3.out.cell 4 _ rfl
 have yA5:=HX3.out.cell 5 _ rfl
 have yA6:=HX3.out.cell 6 _ rfl
 have yA7:=HX3.out.cell 7 _ rfl
 go_wp2_with fail
 clear yA2 yA3 yA4 yA5 yA6 yA7
 refine (szBook_any c0 c1 c2 c3 a1 a2 n1 n2 a3 a4 ts is q1 _ (HR.out.b.below HW2.out) WN.out.1 WN.out.2.1 WT.out WI.out p10 p11).mono ?_
 rintro e v4 ⟨q2,rfl,hq2,hb⟩
 have HW5:=qH (HW2.out.trans (hb.mono HW2.out.size))
 have HX6:=qH (HX3.out.below hb)
 clear hb HW2 HX3
 rcases hq2 with rfl | ⟨p20,p21,⟨hn1,hn2⟩,_,_⟩
 · go_wp2_with fail
   go_ret
   exact ⟨-1,rfl,.inl rfl,HW5.out⟩
 have hnn2 : ¬ q2 < 0:=by omega
 have hq21 : q2 <= 1048576:=by omega
 have hwm : IntKind.i64.wrap (q2 - (ma.size : Int)) = q2 - (ma.size : Int):=by have:=WM.out;rw [IntWalk.i64_in _ (by omega)]
 clear p10 p11 hnn1 p21
 have yA9:=HX6.out.cell 9 _ rfl
 by_cases hm : q2 - (ma.size : Int) < 0
 · go_wp2_with fail
   go_ret
   exact ⟨-1,rfl,.inl rfl,HW5.out⟩
 have yA10:=HX6.out.cell 10 _ rfl
 go_wp2_with fail
 clear yA9 yA10
 refine (szEnvS_any g1 gn g2 gs (q2 - (ma.size : Int)) _ (SR.below HR.out.g HW5.out) WN.out.2.2.1 WG.out (by omega) (by omega)).mono ?_
 rintro e v7 ⟨q3,rfl,hq3,hb⟩
 have HW8:=qH (HW5.out.trans (hb.mono HW5.out.size))
 have HX9:=qH (HX6.out.below hb)
 clear hb HW5 HX6
 rcases hq3 with rfl | ⟨p30,p31,hgn,hgs⟩
 · go_wp2_with fail
   go_ret
   exact ⟨-1,rfl,.inl rfl,HW8.out⟩
 have hnn3 : ¬ q3 < 0:=by omega
 have HGS:=qH hgs
 have hmm : ma.size <= 1048576:=by omega
 have hq31 : q3 <= 1048576:=by omega
 clear hgs p31 hwm hm p20 hnn2 hq21
 have yA12:=HX9.out.cell 12 _ rfl
 have yA13:=HX9.out.cell 13 _ rfl
 have yA14:=HX9.out.cell 14 _ rfl
 have yA15:=HX9.out.cell 15 _ rfl
 go_wp2_with fail
 clear yA12 yA13 yA14 yA15
 refine (szRekey_any on nd mn r1 rn r2 rs q3 _ (SR.below HR.out.r HW8.out) WN.out.2.2.2 WR.out p30 hq31).mono ?_
 rintro e v10 ⟨q4,rfl,hq4,hb⟩
 have HW11:=qH (HW8.out.trans (hb.mono HW8.out.size))
 have HX12:=qH (HX9.out.below hb)
 clear hb HW8 HX9
 rcases hq4 with rfl | ⟨p40,p41,hrn,hrs⟩
 · go_wp2_with fail
   go_ret
   exact ⟨-1,rfl,.inl rfl,HW11.out⟩
 have hnn4 : ¬ q4 < 0:=by omega
 have HRS:=qH hrs
 clear hrs
 go_wp2_with fail
 go_ret
 exact ⟨q4,rfl,.inr ⟨p40,by omega,⟨HDS.out,hmm⟩,⟨hn1,hn2,hgn,hrn⟩,HGS.out,HRS.out⟩,HW11.out⟩
end Go.Proofs.YthkbcjnbmciolaaGreatDoor
namespace Go.Proofs.YthkbcjnbmciolaaGreatDoor
open Go.RowKit Go.Extern.Stop Go.Stop Go.Extern
set_option linter.unusedVariables false
theorem as_valueOf27 (t : Addr) (w : World) : (ReflectliteValue.unpack (.iface 206 (.pointer (some t)))).run Tryz.prog w
 = .ok (.agg #[.pointer (some ⟨1,206,none⟩),.pointer (some ⟨w.heap.size,0,none⟩),.int .u64 150]) (w.alloc (.cells #[.pointer (some t)] 206)):=by kernel_rfl
theorem as_type27 (a : Addr) (w : World) : (ReflectliteValue.methodAny (ReflectliteValue.valueError "reflectlite.Value.Type" 0) (fun t _ _ _ => ReflectliteType.toType t) #[.agg #[.pointer (some ⟨1, 206, none⟩), .pointer (some a), .int .u64 150]]).run Tryz.prog w
 = .ok (.iface 241 (.agg #[.pointer (some ⟨1,206,none⟩)])) w:=by kernel_rfl
theorem as_methodKind (h : Value) (w : World) : (Go.method 407 241 (.agg #[h]) "Kind").run Tryz.prog w = .ok (207, h) w := by kernel_rfl
theorem as_kind27 (w : World) : ((ReflectliteType.abiMethod fun t => (fun a : Nat => Value.int IntKind.u8 (a : Int)) <$> Rtype.kind t) #[.pointer (some ⟨1,206,none⟩)]).run Tryz.prog w = .ok (.int .u8 22) w:=by kernel_rfl
theorem as_kind25 (w : World) : ((ReflectliteType.abiMethod fun t => (fun a : Nat => Value.int IntKind.u8 (a : Int)) <$> Rtype.kind t) #[.pointer (some ⟨1,204,none⟩)]).run Tryz.prog w = .ok (.int .u8 25) w:=by kernel_rfl
theorem as_parts27 (a : Addr) (w : World) : (ReflectliteValue.parts (.agg #[.pointer (some ⟨1,206,none⟩),.pointer (some a),.int .u64 150])).run Tryz.prog w = .ok (some (206,a,150)) w:=by kernel_rfl
theorem as_isNil27 (a p : Addr) (W : World) (ha : W.cell? a = some (.pointer (some p))) :
 (ReflectliteValue.method (ReflectliteValue.valueError "reflectlite.Value.IsNil" 0) ReflectliteValue.isNil #[.agg #[.pointer (some ⟨1, 206, none⟩), .pointer (some a), .int .u64 150]]).run Tryz.prog W = .ok (.bool false) W := by
 rw [Lib.rl_method]
 simp only [Sem.run_bind,as_parts27,Result.andThen]
 simp [ReflectliteValue.isNil,loadVar,isAgg,underlying,Tryz.underlying206,ha,Result.andThen]
theorem as_methodElem (h : Value) (w : World) : (Go.method 407 241 (.agg #[h]) "Elem").run Tryz.prog w = .ok (238, .agg #[h]) w := by kernel_rfl
theorem as_methodImplements (h : Value) (w : World) : (Go.method 407 241 (.agg #[h]) "Implements").run Tryz.prog w = .ok (239, .agg #[h]) w := by kernel_rfl
theorem as_methodAssignableTo (h : Value) (w : World) : (Go.method 407 241 (.agg #[h]) "AssignableTo").run Tryz.prog w = .ok (236, .agg #[h]) w := by kernel_rfl
theorem as_elem27 (w : World) : (ReflectliteType.method ReflectliteType.elem #[.agg #[.pointer (some ⟨1,206,none⟩)]]).run Tryz.prog w = .ok (.iface 241 (.agg #[.pointer (some ⟨1,204,none⟩)])) w:=by kernel_rfl
theorem as_implements25 (w : World) : (ReflectliteType.relation "Implements" ReflectliteType.implements_ #[.agg #[.pointer (some ⟨1, 204, none⟩)], .iface 241 (.agg #[.pointer (some ⟨1, 175, none⟩)])]).run Tryz.prog w = .ok (.bool true) w := by kernel_rfl
theorem as_typeOf25 (v : Value) (w : World) : (ReflectliteType.typeOf #[.iface 204 v]).run Tryz.prog w = .ok (.iface 241 (.agg #[.pointer (some ⟨1,204,none⟩)])) w:=by kernel_rfl
theorem as_assignable25 (w : World) : (ReflectliteType.relation "AssignableTo" ReflectliteType.assignableTo #[.agg #[.pointer (some ⟨1, 204, none⟩)], .iface 241 (.agg #[.pointer (some ⟨1, 204, none⟩)])]).run Tryz.prog w = .ok (.bool true) w := by kernel_rfl
theorem as_valueOf25 (c : Int) (w : World) : (ReflectliteValue.unpack (.iface 204 (.agg #[.int .i64 c]))).run Tryz.prog w
 = .ok (.agg #[.pointer (some ⟨1,204,none⟩),.pointer (some ⟨w.heap.size,0,none⟩),.int .u64 153]) (w.alloc (.cells #[.int .i64 c] 204)):=by kernel_rfl
theorem as_elemOf27 (w : World) : (Rtype.elem? 206).run Tryz.prog w = .ok (some 204) w:=by kernel_rfl
theorem as_mk25 (p : Addr) (w : World) : (ReflectliteValue.mk 204 p ReflectliteValue.flagAddr).run Tryz.prog w = .ok (.agg #[.pointer (some ⟨1,204,none⟩),.pointer (some p),.int .u64 409]) w:=by kernel_rfl
theorem as_elemV27 (a p : Addr) (W : World) (ha : W.cell? a = some (.pointer (some p))) :
 (ReflectliteValue.method (ReflectliteValue.valueError "reflectlite.Value.Elem" 0) ReflectliteValue.elem #[.agg #[.pointer (some ⟨1, 206, none⟩), .pointer (some a), .int .u64 150]]).run Tryz.prog W
  = .ok (.agg #[.pointer (some ⟨1,204,none⟩),.pointer (some p),.int .u64 409]) W:=by
 rw [Lib.rl_method]
 simp only [Sem.run_bind,as_parts27,Result.andThen]
 simp [ReflectliteValue.elem,loadVar,isAgg,underlying,Tryz.underlying206,ha,Result.andThen,as_elemOf27,as_mk25]
theorem as_parts25a (a : Addr) (w : World) : (ReflectliteValue.parts (.agg #[.pointer (some ⟨1,204,none⟩),.pointer (some a),.int .u64 409])).run Tryz.prog w = .ok (some (204,a,409)) w:=by kernel_rfl
theorem as_parts25 (a : Addr) (w : World) : (ReflectliteValue.parts (.agg #[.pointer (some ⟨1,204,none⟩),.pointer (some a),.int .u64 153])).run Tryz.prog w = .ok (some (204,a,153)) w:=by kernel_rfl
theorem as_direct25 (w : World) : (Rtype.directlyAssignable 204 204).run Tryz.prog w = .ok true w:=by kernel_rfl
theorem as_set25 (ta b : Addr) (c : Int) (old : Value) (W : World) (hb : W.cell? b = some (.int .i64 c)) (ht : W.cell? ta = some old) (hf : W.frozen? ta = false) :
 (ReflectliteValue.set #[.agg #[.pointer (some ⟨1,204,none⟩),.pointer (some ta),.int .u64 409],.agg #[.pointer (some ⟨1,204,none⟩),.pointer (some b),.int .u64 153]]).run Tryz.prog W
  = .ok (.tuple #[]) (W.setCell ta (.int .i64 c)):=by
 show Sem.run _ (Bind.bind (ReflectliteValue.parts (.agg #[.pointer (some ⟨1,204,none⟩),.pointer (some ta),.int .u64 409])) fun _ => Bind.bind (ReflectliteValue.parts (.agg #[.pointer (some ⟨1,204,none⟩),.pointer (some b),.int .u64 153])) fun _ => _) W = _
 simp only [Sem.run_bind,as_parts25a,as_parts25,Result.andThen]
 have hl : (loadCells b 1).run Tryz.prog W = .ok #[.int .i64 c] W:=by
  have h:=run_loadCells_list (P:=Tryz.prog) W b [.int .i64 c] (fun j v hj => by
   match j,hj with
   | 0,hj => simp at hj;subst hj;simpa [Addr.add] using hb)
  simpa using h
 have hst : (store ta (.int .i64 c)).run Tryz.prog W = .ok () (W.setCell ta (.int .i64 c)):=by
  rw [run_store Tryz.prog W ta _ _ (by rfl)]
  simp [ht,hf]
 simp [ReflectliteValue.flagAddr,loadVar,isAgg,underlying,Tryz.underlying204,hl,Result.andThen,as_direct25,storeVar,Value.cells,storeCells,Addr.add,hst]
theorem as_hit (c : Int) (t : Addr) (old : Value) (w : World) (hg : w.cell? ⟨0,0,none⟩ = some (.iface 241 (.agg #[.pointer (some ⟨1,175,none⟩)]))) (ht0 : w.cell? t = some old) (hf0 : w.frozen? t = false) :
 Calls Tryz.prog 150 #[.iface 204 (.agg #[.int .i64 c]),.iface 206 (.pointer (some t))] w fun ev w' => ev = .returned (.bool true) /\ w' = ((((w.alloc (.cells #[.pointer (some t)] 206)).alloc (.cells #[.pointer (some ⟨1,206,none⟩),.pointer (some ⟨w.heap.size,0,none⟩),.int .u64 150] 227)).alloc (.cells #[.pointer (some ⟨1,206,none⟩),.pointer (some ⟨w.heap.size,0,none⟩),.int .u64 150] 227)).alloc (.cells #[.int .i64 c] 204)).setCell t (.int .i64 c):=by
 have h6:=@run_callFunc_extern Tryz.prog 161 _ (fun args => ReflectliteValue.unpack (args.getD 0 (.tuple #[]))) Tryz.func161 (by kernel_rfl) (by kernel_rfl) (by kernel_rfl) (by kernel_rfl)
 have h7 := @run_callFunc_extern Tryz.prog 162 _ (ReflectliteValue.methodAny (ReflectliteValue.valueError "reflectlite.Value.Type" 0) (fun t _ _ _ => ReflectliteType.toType t)) Tryz.func162 (by kernel_rfl) (by kernel_rfl) (by kernel_rfl) (by kernel_rfl)
 have h8 := @run_callFunc_extern Tryz.prog 163 _ (ReflectliteValue.method (ReflectliteValue.valueError "reflectlite.Value.IsNil" 0) ReflectliteValue.isNil) Tryz.func163 (by kernel_rfl) (by kernel_rfl) (by kernel_rfl) (by kernel_rfl)
 have h27:=@run_callFunc_extern Tryz.prog 207 _ (ReflectliteType.abiMethod fun t => do pure (.int .u8 (<- Rtype.kind t))) Tryz.func207 (by kernel_rfl) (by kernel_rfl) (by kernel_rfl) (by kernel_rfl)
 have h37:=@run_callFunc_extern Tryz.prog 238 _ (ReflectliteType.method ReflectliteType.elem) Tryz.func238 (by kernel_rfl) (by kernel_rfl) (by kernel_rfl) (by kernel_rfl)
 have h38 := @run_callFunc_extern Tryz.prog 239 _ (ReflectliteType.relation "Implements" ReflectliteType.implements_) Tryz.func239 (by kernel_rfl) (by kernel_rfl) (by kernel_rfl) (by kernel_rfl)
 have h10:=@run_callFunc_extern Tryz.prog 169 _ ReflectliteType.typeOf Tryz.func169 (by kernel_rfl) (by kernel_rfl) (by kernel_rfl) (by kernel_rfl)
 have h35 := @run_callFunc_extern Tryz.prog 236 _ (ReflectliteType.relation "AssignableTo" ReflectliteType.assignableTo) Tryz.func236 (by kernel_rfl) (by kernel_rfl) (by kernel_rfl) (by kernel_rfl)
 have h11 := @run_callFunc_extern Tryz.prog 170 _ (ReflectliteValue.method (ReflectliteValue.valueError "reflectlite.Value.Elem" 0) ReflectliteValue.elem) Tryz.func170 (by kernel_rfl) (by kernel_rfl) (by kernel_rfl) (by kernel_rfl)
 have h12:=@run_callFunc_extern Tryz.prog 171 _ ReflectliteValue.set Tryz.func171 (by kernel_rfl) (by kernel_rfl) (by kernel_rfl) (by kernel_rfl)
 have tO:=as_typeOf25
 have mA:=as_methodAssignableTo
 have a25:=as_assignable25
 have v25:=as_valueOf25
 have f6:=as_valueOf27
 have f7:=as_type27
 have mK:=as_methodKind
 have mE:=as_methodElem
 have mI:=as_methodImplements
 have k27:=as_kind27
 have k25:=as_kind25
 have e27:=as_elem27
 have i25:=as_implements25
 have n8:=as_isNil27 ⟨w.heap.size,0,none⟩ t ((w.alloc (.cells #[.pointer (some t)] 206)).alloc (.cells #[.pointer (some ⟨1,206,none⟩),.pointer (some ⟨w.heap.size,0,none⟩),.int .u64 150] 227)) (by simp)
 have hlt : 0 < w.heap.size:=by
  rcases Nat.eq_zero_or_pos w.heap.size with h0 | h
  · simp [World.cell?,h0] at hg
  · exact h
 have hg2 : ((w.alloc (.cells #[.pointer (some t)] 206)).alloc (.cells #[.pointer (some ⟨1,206,none⟩),.pointer (some ⟨w.heap.size,0,none⟩),.int .u64 150] 227)).cell? ⟨0,0,none⟩ = some (.iface 241 (.agg #[.pointer (some ⟨1,175,none⟩)])):=by
  rw [World.cell?_alloc_lt _ _ ⟨0,0,none⟩ (by simp),World.cell?_alloc_lt _ _ ⟨0,0,none⟩ hlt];exact hg
 have htl : t.block < w.heap.size:=by
  rcases Nat.lt_or_ge t.block w.heap.size with h | h
  · exact h
  · simp [World.cell?,Array.getElem?_eq_none h] at ht0
 have el:=as_elemV27 ⟨w.heap.size,0,none⟩ t (((w.alloc (.cells #[.pointer (some t)] 206)).alloc (.cells #[.pointer (some ⟨1,206,none⟩),.pointer (some ⟨w.heap.size,0,none⟩),.int .u64 150] 227)).alloc (.cells #[.pointer (some ⟨1,206,none⟩),.pointer (some ⟨w.heap.size,0,none⟩),.int .u64 150] 227)) (by rw [World.cell?_alloc_lt _ _ ⟨w.heap.size,0,none⟩ (by simp;omega)];simp)
 have st:=as_set25 t ⟨w.heap.size + 1 + 1 + 1,0,none⟩ c old ((((w.alloc (.cells #[.pointer (some t)] 206)).alloc (.cells #[.pointer (some ⟨1,206,none⟩),.pointer (some ⟨w.heap.size,0,none⟩),.int .u64 150] 227)).alloc (.cells #[.pointer (some ⟨1,206,none⟩),.pointer (some ⟨w.heap.size,0,none⟩),.int .u64 150] 227)).alloc (.cells #[.int .i64 c] 204))
  (by rw [World.cell?_alloc_at _ _ _ _ (by simp)];rfl)
  (by rw [World.cell?_alloc_lt _ _ t (by simp;omega),World.cell?_alloc_lt _ _ t (by simp;omega),World.cell?_alloc_lt _ _ t (by simp;omega),World.cell?_alloc_lt _ _ t htl];exact ht0)
  (by rw [World.frozen?_alloc_old _ _ t (by simp;omega),World.frozen?_alloc_old _ _ t (by simp;omega),World.frozen?_alloc_old _ _ t (by simp;omega),World.frozen?_alloc_old _ _ t (Nat.ne_of_lt htl)];exact hf0)
 go_enter Tryz.func150,Tryz.ntmps150
 go_wp2
 refine wp_loop_rounds 1 ?_
 rw [rounds_succ]
 go_wp2
 go_ret
 exact ⟨rfl,rfl⟩
end Go.Proofs.YthkbcjnbmciolaaGreatDoor
