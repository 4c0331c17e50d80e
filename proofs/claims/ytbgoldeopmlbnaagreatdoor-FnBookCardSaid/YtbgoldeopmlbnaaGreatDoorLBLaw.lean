/- The statement, proved: at every argument that can be read the law answers true and leaves its arguments as they were. -/
import Derived.SevenTiedAt
import Derived.ChangeOld
import Derived.Test.YtbgoldeopmlbnaaGreatDoorQB23
import Derived.Test.YtbgoldeopmlbnaaGreatDoorQB30
import Derived.Test.YtbgoldeopmlbnaaGreatDoorQB34
set_option maxRecDepth 100000
set_option maxHeartbeats 16000000
namespace Go.Proofs.YtbgoldeopmlbnaaGreatDoor.fnBook
open Go.ChangeShapes Go.WideShapes Go.ChangeAt Go.RowKit
open Go.ChangeMaps (open_string shut_string)
set_option linter.unusedVariables false
theorem laidOut : laidOutB Tryz.prog = true:=by kernel_rfl
def IsRow (k : IntKind) (w : World) (a : Option Addr) (len cap : Nat) (zs : List Int) : Prop :=
 (a = none /\ len = 0 /\ cap = 0 /\ zs = []) ∨
 ∃ x,a = some x /\ len <= cap /\ cap <= maxLen /\ zs.length = cap /\ (∀ i,i < zs.length -> w.cell? (x.add i) = some (.int k (zs.getD i 0))) /\ ∀ n ∈ zs,(Lit.int k n).wf = true
open Go.RowKit Go.PlainAid G MGF MGet IRow MNum
theorem code_of {w : World} {a : Option Addr} {len cap : Nat} {zs : List Int} (h : IsRow .u8 w a len cap zs) : CodeAt w a len:=by
 rcases h with ⟨rfl,rfl,rfl,rfl⟩ | ⟨x,rfl,hl,hm,hz,hc,hw⟩
 · exact ⟨0,0,fun h => absurd h (by omega),fun i hi => absurd hi (by omega)⟩
 · by_cases h0 : 0 < len
   · obtain ⟨b,o,sp⟩:=x
     have h1:=hc 0 (by omega)
     have hsp : sp = none:=by simpa [Addr.add] using World.cell?_spot h1
     subst hsp
     refine ⟨b,o,fun _ => rfl,fun i hi => ?_⟩
     have h2:=hc i (by omega)
     have hb:=bounds_u8 (hw (zs.getD i 0) (by rw [List.getD_eq_getElem?_getD,List.getElem?_eq_getElem (show i < zs.length by omega)];exact List.getElem_mem _))
     have e1 : (⟨b,o,none⟩ : Addr).add i = ⟨b,o + i,none⟩:=by unfold Addr.add;split <;> simp_all
     exact ⟨_,hb.1,hb.2,by rw [<- e1];exact h2⟩
   · exact ⟨0,0,fun h => absurd h h0,fun i hi => absurd hi (by omega)⟩
theorem small_facts {b : Bk} {w : World} {a1 a2 : Option Addr} {n1 n2 a3 a4 : Nat} (h : SmallB b) (k : BkR w a1 n1 a3 a2 n2 a4 b.ts b.is) :
 (n1 <= 1048576 /\ n2 <= 1048576) /\ (∀ t,t < n1 -> (b.ts.getD t tmD).lk.size <= maxLen) /\ (∀ t,t < n2 -> (b.is.getD t imD).nm.size <= maxLen /\ (b.is.getD t imD).bd.size <= maxLen):=by
 have l1 : b.ts.length = n1:=k.t.len
 have l2 : b.is.length = n2:=k.i.len
 have m20 : 20 <= maxLen:=by decide
 refine ⟨⟨by have:=h.t;omega,by have:=h.i;omega⟩,fun t ht => ?_,fun t ht => ?_⟩
 · have:=h.tt (b.ts.getD t tmD) (by rw [List.getD_eq_getElem?_getD,List.getElem?_eq_getElem (show t < b.ts.length by omega)];exact List.getElem_mem _)
   omega
 · have:=h.ii (b.is.getD t imD) (by rw [List.getD_eq_getElem?_getD,List.getElem?_eq_getElem (show t < b.is.length by omega)];exact List.getElem_mem _)
   omega
theorem bookDo_book (b : Bk) (d : Dd) : bookB (bookDoS b d).1 = true:=by
 unfold bookDoS
 split
 · rename_i h
   rcases doS_code b d with hc | hc
   · exact doS_book h.1 h.2 hc
   · rw [hc];exact bookB_bk0
 · exact bookB_bk0
theorem deedB_max {q0 q1 q2 q3 q4 q5 : Int} {q6 q7 : ByteArray} {q8 : Int} {q9 : ByteArray} (h : deedB q0 q1 q2 q3 q4 q5 q6 q7 q8 q9 = true) : q6.size <= 20 /\ q7.size <= 20 /\ q9.size <= 20:=by
 have hz : (⟨#[]⟩ : ByteArray).size = 0:=rfl
 have hB:=deedB_bounds h
 have h':=h
 unfold deedB at h'
 rcases hB with ⟨rfl,h1,h2,h3,h4⟩ | ⟨rfl,h1,h2⟩ | ⟨rfl,h1,h2,h3⟩ | ⟨rfl,h1⟩
 · simp only [if_pos,Bool.and_eq_true,decide_eq_true_eq] at h'
   obtain ⟨⟨_,rfl,rfl⟩,rfl,rfl,rfl⟩:=h'
   omega
 · rw [if_neg (by decide),if_pos rfl] at h'
   simp only [Bool.and_eq_true,decide_eq_true_eq] at h'
   obtain ⟨⟨⟨rfl,rfl,rfl,rfl⟩,_⟩,rfl,rfl,rfl⟩:=h'
   omega
 · rw [if_neg (by decide),if_neg (by decide),if_pos rfl] at h'
   simp only [Bool.and_eq_true,decide_eq_true_eq] at h'
   obtain ⟨⟨⟨rfl,rfl,rfl,rfl⟩,rfl,rfl⟩,_⟩:=h'
   omega
 · rw [if_neg (by decide),if_neg (by decide),if_neg (by decide),if_pos rfl] at h'
   simp only [Bool.and_eq_true,decide_eq_true_eq] at h'
   obtain ⟨⟨⟨⟨rfl,rfl,rfl,rfl⟩,rfl,rfl⟩,_,rfl,rfl⟩,_⟩:=h'
   omega
theorem txOk_max {ds : List Dd} (h : txOk ds = true) : ds.length <= 10 /\ ∀ t,t < ds.length -> (ds.getD t ddD).lk.size <= maxLen /\ (ds.getD t ddD).nm.size <= maxLen /\ (ds.getD t ddD).bd.size <= maxLen:=by
 obtain ⟨⟨_,h2⟩,hd⟩:=txOk_iff.1 h
 refine ⟨h2,fun t ht => ?_⟩
 have hb:=deedB_max (show deedB (ds.getD t ddD).kd (ds.getD t ddD).gn (ds.getD t ddD).nd (ds.getD t ddD).mn (ds.getD t ddD).ck (ds.getD t ddD).no (ds.getD t ddD).lk (ds.getD t ddD).nm (ds.getD t ddD).tm (ds.getD t ddD).bd = true from hd t ht)
 unfold maxLen
 omega
theorem rd_at {u : ByteArray} {i : Nat} (hi : i < (txRd u).length) : txOk ((txRd u).getD i []) = true:=by
 rw [List.getD_eq_getElem?_getD,List.getElem?_eq_getElem hi]
 exact txRd_ok _ (List.getElem_mem _)
theorem pre_at {u : ByteArray} {k : Nat} (hk : k <= u.size) (hu : u.size <= 8000) : (txRd (u.extract 0 k)).length <= (txRd u).length /\ ∀ i,i < (txRd (u.extract 0 k)).length -> (txRd (u.extract 0 k)).getD i [] = (txRd u).getD i []:=by
 obtain ⟨r,hr⟩:=txRd_pre hk hu
 rw [hr]
 refine ⟨by rw [List.length_append];omega,fun i hi => ?_⟩
 rw [List.getD_eq_getElem?_getD,List.getD_eq_getElem?_getD,List.getElem?_append_left hi]
theorem ne_nil {s : ByteArray} (h : s ≠ ⟨#[]⟩) : (s.toList == ([] : List UInt8)) = false:=by
 rw [Lib.toList_data,beq_eq_false_iff_ne]
 intro h2
 refine h ?_
 obtain ⟨⟨l⟩⟩:=s
 have : l = []:=by simpa using h2
 rw [this]
theorem row_at {w : World} {B k c : Nat} {a : Option Addr} {rs : List Rw} {L : Nat -> List Dd} (hk : k = rs.length) (h : SSL w B (.slice a k c) rs L) {i : Nat} (hi : i < k) : ∃ g o,a = some ⟨g,o,none⟩ /\ ∀ u,Below w.heap.size w u -> u.cell? ⟨g,o + i,none⟩ = some (.slice (rs.getD i rwD).a (rs.getD i rwD).n (rs.getD i rwD).c) /\ DdR u (rs.getD i rwD).a (rs.getD i rwD).n (rs.getD i rwD).c (L i):=by
 subst hk
 obtain ⟨g,o,ha,hg,hc,hd⟩:=h.at hi
 exact ⟨g,o,ha,fun u hu => ⟨(hu.cell (p:=⟨g,o + i,none⟩) hg).trans hc,SR.below hd hu⟩⟩
theorem row_max {w : World} {a : Option Addr} {n c : Nat} {ds : List Dd} (h : txOk ds = true) (k : DdR w a n c ds) : n <= 1048576 /\ ∀ t,t < n -> (ds.getD t ddD).lk.size <= maxLen /\ (ds.getD t ddD).nm.size <= maxLen /\ (ds.getD t ddD).bd.size <= maxLen:=by
 have hl : ds.length = n:=k.len
 obtain ⟨h1,h2⟩:=txOk_max h
 exact ⟨by omega,fun t ht => h2 t (by omega)⟩
/-! ### The walk. -/
theorem walk (a0 : Option Addr) (len0 cap0 : Nat) (z0 : List Int) (a1 : Option Addr) (len1 cap1 : Nat) (z1 : List Int) (w : World) (w0 : IsRow .u8 w a0 len0 cap0 z0) (w1 : IsRow .u8 w a1 len1 cap1 z1) (hg : ET w) :
 Calls Tryz.prog 3 #[.slice a0 len0 cap0,.slice a1 len1 cap1] w fun e w' => e = .returned (.bool true) /\ Below w.heap.size w w':=by
 have hc0:=code_of w0
 have hc1:=code_of w1
 clear w0 w1
 by_cases h0 : 1048576 < len0
 · go_enter Tryz.func3,Tryz.ntmps3
   go_wp2
   go_ret
   exact ⟨rfl,Below.refl _ _⟩
 by_cases h1 : 1048576 < len1
 · go_enter Tryz.func3,Tryz.ntmps3
   go_wp2
   go_ret
   exact ⟨rfl,Below.refl _ _⟩
 have hl0 : len0 <= 1048576:=by omega
 have hl1 : len1 <= 1048576:=by omega
 have HC0:=qH hc0
 have HC1:=qH hc1
 clear hc0 hc1 h0 h1
 go_enter Tryz.func3,Tryz.ntmps3
 go_wp2_with fail
 refine (drawBookDo_any a0 len0 cap0 w HC0.out hl0).mono ?_
 rintro e w1 ⟨b,e1,n1,e3,e2,n2,e4,q0,q1,q2,q3,q4,q5,q6,q7,q8,q9,rfl,hsm,hbr,hq,hb⟩
 have HSM:=qH hsm
 have HQ:=qH hq
 obtain ⟨h5,hh5⟩ : ∃ h5,h5 = w1.heap.size:=⟨_,rfl⟩
 obtain ⟨W1,hW1⟩ : ∃ W1,W1 = (w1.alloc (.cells #[.int .i64 b.c0,.int .i64 b.c1,.int .i64 b.c2,.int .i64 b.c3,.slice e1 n1 e3,.slice e2 n2 e4] 28)).alloc (.cells #[.int .i64 q0,.int .i64 q1,.int .i64 q2,.int .i64 q3,.int .i64 q4,.int .i64 q5,.string q6,.string q7,.int .i64 q8,.string q9] 34):=⟨_,rfl⟩
 have hal : Below w1.heap.size w1 W1:=by rw [hW1];exact ((Below.refl _ _).alloc (Nat.le_refl _) _).alloc (by simp) _
 have HX5:=qH (show BoxC W1 h5 [.int .i64 b.c0,.int .i64 b.c1,.int .i64 b.c2,.int .i64 b.c3,.slice e1 n1 e3,.slice e2 n2 e4] by rw [hW1,hh5];exact (BoxC.made _ _ _).alloc _)
 have HX6:=qH (show BoxC W1 (h5 + 1) [.int .i64 q0,.int .i64 q1,.int .i64 q2,.int .i64 q3,.int .i64 q4,.int .i64 q5,.string q6,.string q7,.int .i64 q8,.string q9] by
  rw [hW1,hh5]
  have:=BoxC.made (w1.alloc (.cells #[.int .i64 b.c0,.int .i64 b.c1,.int .i64 b.c2,.int .i64 b.c3,.slice e1 n1 e3,.slice e2 n2 e4] 28)) #[.int .i64 q0,.int .i64 q1,.int .i64 q2,.int .i64 q3,.int .i64 q4,.int .i64 q5,.string q6,.string q7,.int .i64 q8,.string q9] 34
  rwa [World.size_alloc] at this)
 have HB1:=qH (hb.trans (hal.mono hb.size))
 have HBK1:=qH (hbr.below hal)
 clear hsm hbr hq hb hal
 go_upto_region 4 with fail
 rw [<- hW1,<- hh5]
 clear hW1 hh5
 go_wp2_with fail
 refine (drawTxBytes_any a1 len1 cap1 W1 (HC1.out.below HB1.out) hl1).mono ?_
 rintro e w2 ⟨la,ln,lc,ds,rfl,hln,hds,hsd,hb⟩
 have HB2:=qH (HB1.out.trans (hb.mono HB1.out.size))
 have HX52:=qH (HX5.out.below hb)
 have HX62:=qH (HX6.out.below hb)
 have HBK2:=qH (HBK1.out.below hb)
 have HDS2:=qH hds
 have HSD:=qH (show ∀ t,t < ln -> (ds.getD t ddD).lk.size <= maxLen /\ (ds.getD t ddD).nm.size <= maxLen /\ (ds.getD t ddD).bd.size <= maxLen by rw [<- hds.len];exact smallD_max hsd)
 have HDL:=qH (show ds.length <= 4 by rw [hds.len];exact hln)
 clear hds hsd hb HX5 HX6 HB1 HBK1
 go_wp2_with fail
 refine (implTxBytes_any la ln lc ds w2 HDS2.out (by omega) HSD.out).mono ?_
 rintro e w3 ⟨rfl,hb⟩
 obtain ⟨t,ht⟩ : ∃ t,t = txS ds:=⟨_,rfl⟩
 rw [<- ht]
 have HT:=qH ht
 have HTZ:=qH (show t.size <= 1000 by rw [ht];have:=txS_size ds;have:=HDL.out;omega)
 have HB3:=qH (HB2.out.trans (hb.mono HB2.out.size))
 have HX53:=qH (HX52.out.below hb)
 have HX63:=qH (HX62.out.below hb)
 have HBK3:=qH (HBK2.out.below hb)
 have HDS3:=qH (HDS2.out.below hb)
 clear hb ht HB2 HX52 HX62 HBK2 HDS2
 go_wp2_with fail
 refine (drawTxRead_any a0 len0 cap0 w3 (HC0.out.below HB3.out) hl0).mono ?_
 rintro e w4 ⟨u,rfl,hu,hb⟩
 have HB4:=qH (HB3.out.trans (hb.mono HB3.out.size))
 have HX54:=qH (HX53.out.below hb)
 have HX64:=qH (HX63.out.below hb)
 have HBK4:=qH (HBK3.out.below hb)
 have HDS4:=qH (HDS3.out.below hb)
 have HU:=qH hu
 clear hb hu HB3 HX53 HX63 HBK3 HDS3
 go_wp2_with fail
 have HE4:=qH (hg.below HB4.out)
 refine (implTxRead_any u w4 (Nat.le_trans HU.out (by decide)) HE4.out).mono ?_
 rintro e w5 ⟨xa,k0,xc,rs,rfl,hk,hs,hm,hb⟩
 obtain ⟨hl,hS,hten⟩:=hs.info hm
 obtain ⟨LL,hLL⟩ : ∃ L : Nat -> List Dd,L = fun i => (txRd u).getD i []:=⟨_,rfl⟩
 rw [<- hLL] at hS
 have HLL:=qH hLL
 have HR0:=qH hk
 have HK0:=qH (show k0 = (txRd u).length from hk.trans hl)
 have HRT:=qH (show ∀ i,i < k0 -> (rs.getD i rwD).n <= 10 by rw [HK0.out];exact hten)
 have HX:=qH hS
 have HB5:=qH (HB4.out.trans (hb.mono HB4.out.size))
 have HX55:=qH (HX54.out.below hb)
 have HX65:=qH (HX64.out.below hb)
 have HBK5:=qH (HBK4.out.below hb)
 have HDS5:=qH (HDS4.out.below hb)
 clear hk hs hm hl hS hten hb hLL HB4 HX54 HX64 HBK4 HDS4 HE4
 go_wp2_with fail
 refine (specTxRead_any u w5 (Nat.le_trans HU.out (by decide))).mono ?_
 rintro e w6 ⟨ya,k1,yc,qs,rfl,hk,hs,hm,hb⟩
 obtain ⟨hl,hS,hten⟩:=hs.info hm
 rw [<- HLL.out] at hS
 obtain rfl : k1 = k0:=by rw [HK0.out];exact hk.trans hl
 have HR1:=qH hk
 have HY:=qH hS
 have HQT:=qH (show ∀ i,i < k1 -> (qs.getD i rwD).n <= 10 by rw [HK0.out];exact hten)
 have HX2:=qH (HX.out.below hb)
 have HB6:=qH (HB5.out.trans (hb.mono HB5.out.size))
 have HX56:=qH (HX55.out.below hb)
 have HX66:=qH (HX65.out.below hb)
 have HBK6:=qH (HBK5.out.below hb)
 have HDS6:=qH (HDS5.out.below hb)
 clear hk hs hm hl hS hten hb HB5 HX55 HX65 HBK5 HDS5 HX
 have HE6:=qH (hg.below HB6.out)
 go_wp2_with fail
 refine (implReplay_any u w6 (Nat.le_trans HU.out (by decide)) HE6.out).mono ?_
 rintro e w7 ⟨r1,m1,r3,r2,m2,r4,rfl,hO,hb⟩
 obtain ⟨R,hR⟩ : ∃ R,R = bkOf u:=⟨_,rfl⟩
 rw [<- hR] at hO
 rw [<- hR]
 have hRr : bookB R = true:=by rw [hR];exact bkOf_right u
 have hal : Below w7.heap.size w7 (w7.alloc (.cells #[.int .i64 R.c0,.int .i64 R.c1,.int .i64 R.c2,.int .i64 R.c3,.slice r1 m1 r3,.slice r2 m2 r4] 28)):=(Below.refl _ _).alloc (Nat.le_refl _) _
 obtain ⟨W8,hW8⟩ : ∃ W8,W8 = w7.alloc (.cells #[.int .i64 R.c0,.int .i64 R.c1,.int .i64 R.c2,.int .i64 R.c3,.slice r1 m1 r3,.slice r2 m2 r4] 28):=⟨_,rfl⟩
 obtain ⟨h8,hh8⟩ : ∃ h8,h8 = w7.heap.size:=⟨_,rfl⟩
 have HXR:=qH (show BoxC W8 h8 [.int .i64 R.c0,.int .i64 R.c1,.int .i64 R.c2,.int .i64 R.c3,.slice r1 m1 r3,.slice r2 m2 r4] by rw [hW8,hh8];exact BoxC.made _ _ _)
 rw [<- hW8] at hal
 have HRR:=qH hR
 have HRB:=qH hRr
 have HRO:=qH (hO.read.below hal)
 have HY8:=qH ((HY.out.below hb).below hal)
 have HX8:=qH ((HX2.out.below hb).below hal)
 have hb8:=hb.trans (hal.mono hb.size)
 have HB8:=qH (HB6.out.trans (hb8.mono HB6.out.size))
 have HX58:=qH (HX56.out.below hb8)
 have HX68:=qH (HX66.out.below hb8)
 have HBK8:=qH (HBK6.out.below hb8)
 have HDS8:=qH (HDS6.out.below hb8)
 clear hO hRr hR hb hal hb8 HB6 HX56 HX66 HBK6 HDS6 HY HX2 HE6
 go_upto_region 9 with fail
 rw [<- hW8,<- hh8]
 clear hW8 hh8
 go_wp2_with fail
 refine (drawWord_any a1 len1 cap1 W8 (HC1.out.below HB8.out) hl1).mono ?_
 rintro e w9 ⟨wd,rfl,hwd,hb⟩
 have HWD:=qH hwd
 have HY9:=qH (HY8.out.below hb)
 have HX9:=qH (HX8.out.below hb)
 have HXR9:=qH (HXR.out.below hb)
 have HRO9:=qH (HRO.out.below hb)
 have HB9:=qH (HB8.out.trans (hb.mono HB8.out.size))
 have HX59:=qH (HX58.out.below hb)
 have HX69:=qH (HX68.out.below hb)
 have HBK9:=qH (HBK8.out.below hb)
 have HDS9:=qH (HDS8.out.below hb)
 clear hwd hb HB8 HX58 HX68 HBK8 HDS8 HY8 HX8 HXR HRO
 go_upto_region 10 with fail
 have HBS:=qH (small_facts HSM.out HBK9.out)
 have HRS:=qH (small_facts (smallB_of HRB.out).1 HRO9.out)
 have HRL:=qH (show m1 = R.ts.length /\ m2 = R.is.length from ⟨HRO9.out.t.len.symm,HRO9.out.i.len.symm⟩)
 have hmx : Tryz.prog.follows .mixedOrders = true:=by kernel_rfl
 have h6 : q6.size <= maxLen:=Nat.le_trans HQ.out.1 (by decide)
 have h7 : q7.size <= maxLen:=Nat.le_trans HQ.out.2.1 (by decide)
 have h9 : q9.size <= maxLen:=Nat.le_trans HQ.out.2.2 (by decide)
 have hwz : wd.size <= maxLen:=Nat.le_trans HWD.out (by decide)
 obtain ⟨D,hD⟩ : ∃ D : Bk × Int,D = bookDoS b ⟨q0,q1,q2,q3,q4,q5,q6,q7,q8,q9⟩:=⟨_,rfl⟩
 have HDB:=qH (show bookB D.1 = true by rw [hD];exact bookDo_book b _)
 go_cut [98] from 45 (fun v u => v = .bool false /\ Below w9.heap.size w9 u)
 case first =>
  refine FreeW.region hmx (fun u => Below w9.heap.size w9 u) ?_
  have HU0 : Hid (Below w9.heap.size w9 w9.drew):=qH (Below.refl _ _).drew
  generalize w9.drew = x0 at *
  refine FreeW.take (i:=0) (v:=.agg #[.int .i64 b.c0,.int .i64 b.c1,.int .i64 b.c2,.int .i64 b.c3,.slice e1 n1 e3,.slice e2 n2 e4]) rfl (by kernel_rfl) (by kernel_rfl) (by kernel_rfl) HU0.out (by kernel_rfl) (fun u hu => by have kx:=HX59.out.below hu;have z0:=kx.cell 0 _ rfl;have z1:=kx.cell 1 _ rfl;have z2:=kx.cell 2 _ rfl;have z3:=kx.cell 3 _ rfl;have z4:=kx.cell 4 _ rfl;have z5:=kx.cell 5 _ rfl;go_simp) ?_
  simp only [pS,List.set,zT,zZ]
  refine FreeW.take (i:=1) (v:=.agg #[.int .i64 q0,.int .i64 q1,.int .i64 q2,.int .i64 q3,.int .i64 q4,.int .i64 q5,.string q6,.string q7,.int .i64 q8,.string q9]) rfl (by kernel_rfl) (by kernel_rfl) (by kernel_rfl) HU0.out (by kernel_rfl) (fun u hu => by have kx:=HX69.out.below hu;have z0:=kx.cell 0 _ rfl;have z1:=kx.cell 1 _ rfl;have z2:=kx.cell 2 _ rfl;have z3:=kx.cell 3 _ rfl;have z4:=kx.cell 4 _ rfl;have z5:=kx.cell 5 _ rfl;have z6:=kx.cell 6 _ rfl;have z7:=kx.cell 7 _ rfl;have z8:=kx.cell 8 _ rfl;have z9:=kx.cell 9 _ rfl;go_simp) ?_
  simp only [pS,List.set,zT,zZ,zU]
  refine FreeW.take (i:=3) (v:=.agg #[.int .i64 b.c0,.int .i64 b.c1,.int .i64 b.c2,.int .i64 b.c3,.slice e1 n1 e3,.slice e2 n2 e4]) rfl (by kernel_rfl) (by kernel_rfl) (by kernel_rfl) HU0.out (by kernel_rfl) (fun u hu => by have kx:=HX59.out.below hu;have z0:=kx.cell 0 _ rfl;have z1:=kx.cell 1 _ rfl;have z2:=kx.cell 2 _ rfl;have z3:=kx.cell 3 _ rfl;have z4:=kx.cell 4 _ rfl;have z5:=kx.cell 5 _ rfl;go_simp) ?_
  simp only [pS,List.set,zT,zZ,zU]
  refine FreeW.take (i:=4) (v:=.agg #[.int .i64 q0,.int .i64 q1,.int .i64 q2,.int .i64 q3,.int .i64 q4,.int .i64 q5,.string q6,.string q7,.int .i64 q8,.string q9]) rfl (by kernel_rfl) (by kernel_rfl) (by kernel_rfl) HU0.out (by kernel_rfl) (fun u hu => by have kx:=HX69.out.below hu;have z0:=kx.cell 0 _ rfl;have z1:=kx.cell 1 _ rfl;have z2:=kx.cell 2 _ rfl;have z3:=kx.cell 3 _ rfl;have z4:=kx.cell 4 _ rfl;have z5:=kx.cell 5 _ rfl;have z6:=kx.cell 6 _ rfl;have z7:=kx.cell 7 _ rfl;have z8:=kx.cell 8 _ rfl;have z9:=kx.cell 9 _ rfl;go_simp) ?_
  simp only [pS,List.set,zT,zZ,zU]
  refine FreeW.call (i:=2) (f:=13) (args:=#[.agg #[.int .i64 b.c0,.int .i64 b.c1,.int .i64 b.c2,.int .i64 b.c3,.slice e1 n1 e3,.slice e2 n2 e4],.agg #[.int .i64 q0,.int .i64 q1,.int .i64 q2,.int .i64 q3,.int .i64 q4,.int .i64 q5,.string q6,.string q7,.int .i64 q8,.string q9]]) (by kernel_rfl) rfl (by kernel_rfl) (by go_simp) ?_
  refine Calls.mono (implBookDo_any b e1 e2 n1 n2 e3 e4 q0 q1 q2 q3 q4 q5 q6 q7 q8 q9 _ (HBK9.out.below HU0.out) HBS.out.1.1 HBS.out.1.2 HBS.out.2.1 HBS.out.2.2 h6 h7 h9) ?_
  rintro e x1 ⟨p1,pn1,p3,p2,pn2,p4,rfl,hO,hb⟩
  have HU1:=qH (HU0.out.trans (hb.mono HU0.out.size))
  have HO1:=qH hO.read
  have HPL:=qH hO.len
  rw [<- hD] at HO1 HPL ⊢
  clear hO hb
  refine ⟨_,rfl,HU1.out,?_⟩
  simp only [pS,List.set,zT,zZ,zU]
  refine FreeW.call (i:=5) (f:=14) (args:=#[.agg #[.int .i64 b.c0,.int .i64 b.c1,.int .i64 b.c2,.int .i64 b.c3,.slice e1 n1 e3,.slice e2 n2 e4],.agg #[.int .i64 q0,.int .i64 q1,.int .i64 q2,.int .i64 q3,.int .i64 q4,.int .i64 q5,.string q6,.string q7,.int .i64 q8,.string q9]]) (by kernel_rfl) rfl (by kernel_rfl) (by go_simp) ?_
  refine Calls.mono (specBookDo_any b e1 e2 n1 n2 e3 e4 q0 q1 q2 q3 q4 q5 q6 q7 q8 q9 _ (HBK9.out.below HU1.out) HBS.out.1.1 HBS.out.1.2 HBS.out.2.1 HBS.out.2.2 h6 h7 h9) ?_
  rintro e x2 ⟨s1,sn1,s3,s2,sn2,s4,rfl,hO,hb⟩
  have HU2:=qH (HU1.out.trans (hb.mono HU1.out.size))
  have HO2:=qH hO.read
  have HO3:=qH (HO1.out.below hb)
  have hsl:=hO.len
  rw [<- hD] at HO2 hsl ⊢
  obtain rfl : sn1 = pn1:=hsl.1.symm.trans HPL.out.1
  obtain rfl : sn2 = pn2:=hsl.2.symm.trans HPL.out.2
  have HDS:=qH (small_facts (smallB_of HDB.out).1 HO2.out)
  clear hO hb hsl HO1 HPL
  refine ⟨_,rfl,HU2.out,?_⟩
  simp only [pS,List.set,zT,zZ,zU]
  refine FreeW.call (i:=6) (f:=12) (args:=#[.agg #[.int .i64 D.1.c0,.int .i64 D.1.c1,.int .i64 D.1.c2,.int .i64 D.1.c3,.slice p1 sn1 p3,.slice p2 sn2 p4,.int .i64 D.2],.agg #[.int .i64 D.1.c0,.int .i64 D.1.c1,.int .i64 D.1.c2,.int .i64 D.1.c3,.slice s1 sn1 s3,.slice s2 sn2 s4,.int .i64 D.2]]) (by kernel_rfl) rfl (by kernel_rfl) (by go_simp) ?_
  refine Calls.mono (lwBooks_same D.1 D.2 p1 p2 s1 s2 sn1 sn2 p3 p4 s3 s4 _ HO3.out HO2.out HDS.out.1.1 HDS.out.1.2 HDS.out.2.1 HDS.out.2.2 (fun _ => HDB.out)) ?_
  rintro e x3 ⟨rfl,hb⟩
  have HU3:=qH (HU2.out.trans (hb.mono HU2.out.size))
  clear hb HO3 HO2 HDS
  refine ⟨_,rfl,HU3.out,?_⟩
  simp only [pS,List.set,zT,zZ,zU]
  refine FreeW.take (i:=7) (v:=.bool false) rfl (by kernel_rfl) (by kernel_rfl) (by kernel_rfl) HU3.out (by kernel_rfl) (fun u hu => by go_simp) ?_
  simp only [pS,List.set,zT,zZ,zU]
  refine FreeW.take (i:=8) (v:=.bool false) rfl (by kernel_rfl) (by kernel_rfl) (by kernel_rfl) HU3.out (by kernel_rfl) (fun u hu => by go_simp) ?_
  simp only [pS,List.set,zT,zZ,zU]
  refine FreeW.take (i:=9) (v:=.string t) rfl (by kernel_rfl) (by kernel_rfl) (by kernel_rfl) HU3.out (by kernel_rfl) (fun u hu => by go_simp) ?_
  simp only [pS,List.set,zT,zZ,zU]
  refine FreeW.take (i:=10) (v:=.slice la ln lc) rfl (by kernel_rfl) (by kernel_rfl) (by kernel_rfl) HU3.out (by kernel_rfl) (fun u hu => by go_simp) ?_
  simp only [pS,List.set,zT,zZ,zU]
  refine FreeW.call (i:=11) (f:=15) (args:=#[.slice la ln lc]) (by kernel_rfl) rfl (by kernel_rfl) (by go_simp) ?_
  refine Calls.mono (specTxBytes_any la ln lc ds _ (SR.below HDS9.out HU3.out) (by omega) HSD.out) ?_
  rintro e x4 ⟨rfl,hb⟩
  have HU4:=qH (HU3.out.trans (hb.mono HU3.out.size))
  rw [<- HT.out]
  clear hb
  refine ⟨_,rfl,HU4.out,?_⟩
  simp only [pS,List.set,zT,zZ,zU]
  refine FreeW.take (i:=12) (v:=.bool false) rfl (by kernel_rfl) (by kernel_rfl) (by kernel_rfl) HU4.out (by kernel_rfl) (fun u hu => by go_simp) ?_
  simp only [pS,List.set,zT,zZ,zU]
  refine FreeW.take (i:=13) (v:=.bool false) rfl (by kernel_rfl) (by kernel_rfl) (by kernel_rfl) HU4.out (by kernel_rfl) (fun u hu => by go_simp) ?_
  simp only [pS,List.set,zT,zZ,zU]
  refine FreeW.take (i:=14) (v:=.bool false) rfl (by kernel_rfl) (by kernel_rfl) (by kernel_rfl) HU4.out (by kernel_rfl) (fun u hu => by go_simp) ?_
  simp only [pS,List.set,zT,zZ,zU]
  refine FreeW.take (i:=15) (v:=.slice xa k1 xc) rfl (by kernel_rfl) (by kernel_rfl) (by kernel_rfl) HU4.out (by kernel_rfl) (fun u hu => by go_simp) ?_
  simp only [pS,List.set,zT,zZ,zU]
  refine FreeW.take (i:=16) (v:=.int .i64 k1) rfl (by kernel_rfl) (by kernel_rfl) (by kernel_rfl) HU4.out (by kernel_rfl) (fun u hu => by go_simp) ?_
  simp only [pS,List.set,zT,zZ,zU]
  refine FreeW.take (i:=17) (v:=.slice ya k1 yc) rfl (by kernel_rfl) (by kernel_rfl) (by kernel_rfl) HU4.out (by kernel_rfl) (fun u hu => by go_simp) ?_
  simp only [pS,List.set,zT,zZ,zU]
  refine FreeW.take (i:=18) (v:=.int .i64 k1) rfl (by kernel_rfl) (by kernel_rfl) (by kernel_rfl) HU4.out (by kernel_rfl) (fun u hu => by go_simp) ?_
  simp only [pS,List.set,zT,zZ,zU]
  refine FreeW.take (i:=19) (v:=.bool false) rfl (by kernel_rfl) (by kernel_rfl) (by kernel_rfl) HU4.out (by kernel_rfl) (fun u hu => by go_simp) ?_
  simp only [pS,List.set,zT,zZ,zU]
  refine FreeW.take (i:=20) (v:=.bool false) rfl (by kernel_rfl) (by kernel_rfl) (by kernel_rfl) HU4.out (by kernel_rfl) (fun u hu => by go_simp) ?_
  simp only [pS,List.set,zT,zZ,zU]
  refine FreeW.take (i:=21) (v:=.bool false) rfl (by kernel_rfl) (by kernel_rfl) (by kernel_rfl) HU4.out (by kernel_rfl) (fun u hu => by go_simp) ?_
  simp only [pS,List.set,zT,zZ,zU]
  refine FreeW.take (i:=22) (v:=.agg #[.int .i64 R.c0,.int .i64 R.c1,.int .i64 R.c2,.int .i64 R.c3,.slice r1 m1 r3,.slice r2 m2 r4]) rfl (by kernel_rfl) (by kernel_rfl) (by kernel_rfl) HU4.out (by kernel_rfl) (fun u hu => by have kx:=HXR9.out.below hu;have z0:=kx.cell 0 _ rfl;have z1:=kx.cell 1 _ rfl;have z2:=kx.cell 2 _ rfl;have z3:=kx.cell 3 _ rfl;have z4:=kx.cell 4 _ rfl;have z5:=kx.cell 5 _ rfl;go_simp) ?_
  simp only [pS,List.set,zT,zZ,zU]
  refine FreeW.take (i:=23) (v:=.string u) rfl (by kernel_rfl) (by kernel_rfl) (by kernel_rfl) HU4.out (by kernel_rfl) (fun u hu => by go_simp) ?_
  simp only [pS,List.set,zT,zZ,zU]
  refine FreeW.call (i:=24) (f:=17) (args:=#[.string u]) (by kernel_rfl) rfl (by kernel_rfl) (by go_simp) ?_
  refine Calls.mono (specReplay_any u _ (Nat.le_trans HU.out (by decide))) ?_
  rintro e x5 ⟨s1,sn1,s3,s2,sn2,s4,rfl,hO,hb⟩
  have HU5:=qH (HU4.out.trans (hb.mono HU4.out.size))
  have HO2:=qH hO.read
  have hsl:=hO.len
  rw [<- HRR.out] at HO2 hsl ⊢
  obtain rfl : sn1 = m1:=hsl.1.symm.trans HRL.out.1.symm
  obtain rfl : sn2 = m2:=hsl.2.symm.trans HRL.out.2.symm
  clear hO hb hsl
  refine ⟨_,rfl,HU5.out,?_⟩
  simp only [pS,List.set,zT,zZ,zU]
  refine FreeW.call (i:=25) (f:=16) (args:=#[.agg #[.int .i64 R.c0,.int .i64 R.c1,.int .i64 R.c2,.int .i64 R.c3,.slice r1 sn1 r3,.slice r2 sn2 r4],.agg #[.int .i64 R.c0,.int .i64 R.c1,.int .i64 R.c2,.int .i64 R.c3,.slice s1 sn1 s3,.slice s2 sn2 s4]]) (by kernel_rfl) rfl (by kernel_rfl) (by go_simp) ?_
  refine Calls.mono (lwBook_same R r1 r2 s1 s2 sn1 sn2 r3 r4 s3 s4 _ (HRO9.out.below HU5.out) HO2.out HRS.out.1.1 HRS.out.1.2) ?_
  rintro e x6 ⟨rfl,hb⟩
  have HU6:=qH (HU5.out.trans (hb.mono HU5.out.size))
  clear hb HO2
  refine ⟨_,rfl,HU6.out,?_⟩
  simp only [pS,List.set,zT,zZ,zU]
  refine FreeW.take (i:=26) (v:=.bool false) rfl (by kernel_rfl) (by kernel_rfl) (by kernel_rfl) HU6.out (by kernel_rfl) (fun u hu => by go_simp) ?_
  simp only [pS,List.set,zT,zZ,zU]
  refine FreeW.take (i:=27) (v:=.bool false) rfl (by kernel_rfl) (by kernel_rfl) (by kernel_rfl) HU6.out (by kernel_rfl) (fun u hu => by go_simp) ?_
  simp only [pS,List.set,zT,zZ,zU]
  refine FreeW.take (i:=28) (v:=.bool false) rfl (by kernel_rfl) (by kernel_rfl) (by kernel_rfl) HU6.out (by kernel_rfl) (fun u hu => by go_simp) ?_
  simp only [pS,List.set,zT,zZ,zU]
  refine FreeW.take (i:=29) (v:=.agg #[.int .i64 R.c0,.int .i64 R.c1,.int .i64 R.c2,.int .i64 R.c3,.slice r1 sn1 r3,.slice r2 sn2 r4]) rfl (by kernel_rfl) (by kernel_rfl) (by kernel_rfl) HU6.out (by kernel_rfl) (fun u hu => by have kx:=HXR9.out.below hu;have z0:=kx.cell 0 _ rfl;have z1:=kx.cell 1 _ rfl;have z2:=kx.cell 2 _ rfl;have z3:=kx.cell 3 _ rfl;have z4:=kx.cell 4 _ rfl;have z5:=kx.cell 5 _ rfl;go_simp) ?_
  simp only [pS,List.set,zT,zZ,zU]
  refine FreeW.call (i:=30) (f:=18) (args:=#[.agg #[.int .i64 R.c0,.int .i64 R.c1,.int .i64 R.c2,.int .i64 R.c3,.slice r1 sn1 r3,.slice r2 sn2 r4]]) (by kernel_rfl) rfl (by kernel_rfl) (by go_simp) ?_
  refine Calls.mono (specBookRight_any R r1 r2 sn1 sn2 r3 r4 _ (HRO9.out.below HU6.out) HRS.out.1.1 HRS.out.1.2 HRS.out.2.1 HRS.out.2.2) ?_
  rintro e x7 ⟨rfl,hb⟩
  have HU7:=qH (HU6.out.trans (hb.mono HU6.out.size))
  rw [HRB.out]
  clear hb
  refine ⟨_,rfl,HU7.out,?_⟩
  simp only [pS,List.set,zT,zZ,zU]
  refine FreeW.take (i:=31) (v:=.bool false) rfl (by kernel_rfl) (by kernel_rfl) (by kernel_rfl) HU7.out (by kernel_rfl) (fun u hu => by go_simp) ?_
  simp only [pS,List.set,zT,zZ,zU]
  refine FreeW.take (i:=32) (v:=.bool false) rfl (by kernel_rfl) (by kernel_rfl) (by kernel_rfl) HU7.out (by kernel_rfl) (fun u hu => by go_simp) ?_
  simp only [pS,List.set,zT,zZ,zU]
  refine FreeW.take (i:=33) (v:=.bool false) rfl (by kernel_rfl) (by kernel_rfl) (by kernel_rfl) HU7.out (by kernel_rfl) (fun u hu => by go_simp) ?_
  simp only [pS,List.set,zT,zZ,zU]
  refine FreeW.take (i:=34) (v:=.string wd) rfl (by kernel_rfl) (by kernel_rfl) (by kernel_rfl) HU7.out (by kernel_rfl) (fun u hu => by go_simp) ?_
  simp only [pS,List.set,zT,zZ,zU]
  refine FreeW.take (i:=36) (v:=.string wd) rfl (by kernel_rfl) (by kernel_rfl) (by kernel_rfl) HU7.out (by kernel_rfl) (fun u hu => by go_simp) ?_
  simp only [pS,List.set,zT,zZ,zU]
  refine FreeW.call (i:=35) (f:=19) (args:=#[.string wd]) (by kernel_rfl) rfl (by kernel_rfl) (by go_simp) ?_
  refine Calls.mono (implWord_any wd _ hwz) ?_
  rintro e x8 ⟨rfl,hb⟩
  have HU8:=qH (HU7.out.trans (hb.mono HU7.out.size))
  clear hb
  refine ⟨_,rfl,HU8.out,?_⟩
  simp only [pS,List.set,zT,zZ,zU]
  refine FreeW.call (i:=37) (f:=20) (args:=#[.string wd]) (by kernel_rfl) rfl (by kernel_rfl) (by go_simp) ?_
  refine Calls.mono (specWord_any wd _ hwz) ?_
  rintro e x9 ⟨rfl,hw⟩
  have hb : Below x8.heap.size x8 x9:=by rw [<- hw];exact Below.refl _ _
  have HU9:=qH (HU8.out.trans (hb.mono HU8.out.size))
  clear hb hw
  refine ⟨_,rfl,HU9.out,?_⟩
  simp only [pS,List.set,zT,zZ,zU]
  refine FreeW.take (i:=38) (v:=.bool false) rfl (by kernel_rfl) (by kernel_rfl) (by kernel_rfl) HU9.out (by kernel_rfl) (fun u hu => by go_simp) ?_
  simp only [pS,List.set,zT,zZ,zU]
  refine FreeW.take (i:=39) (v:=.bool false) rfl (by kernel_rfl) (by kernel_rfl) (by kernel_rfl) HU9.out (by kernel_rfl) (fun u hu => by go_simp) ?_
  simp only [pS,List.set,zT,zZ,zU]
  refine FreeW.take (i:=40) (v:=.bool false) rfl (by kernel_rfl) (by kernel_rfl) (by kernel_rfl) HU9.out (by kernel_rfl) (fun u hu => by go_simp) ?_
  simp only [pS,List.set,zT,zZ,zU]
  refine FreeW.take (i:=41) (v:=.agg #[.int .i64 q0,.int .i64 q1,.int .i64 q2,.int .i64 q3,.int .i64 q4,.int .i64 q5,.string q6,.string q7,.int .i64 q8,.string q9]) rfl (by kernel_rfl) (by kernel_rfl) (by kernel_rfl) HU9.out (by kernel_rfl) (fun u hu => by have kx:=HX69.out.below hu;have z0:=kx.cell 0 _ rfl;have z1:=kx.cell 1 _ rfl;have z2:=kx.cell 2 _ rfl;have z3:=kx.cell 3 _ rfl;have z4:=kx.cell 4 _ rfl;have z5:=kx.cell 5 _ rfl;have z6:=kx.cell 6 _ rfl;have z7:=kx.cell 7 _ rfl;have z8:=kx.cell 8 _ rfl;have z9:=kx.cell 9 _ rfl;go_simp) ?_
  simp only [pS,List.set,zT,zZ,zU]
  refine FreeW.take (i:=43) (v:=.agg #[.int .i64 q0,.int .i64 q1,.int .i64 q2,.int .i64 q3,.int .i64 q4,.int .i64 q5,.string q6,.string q7,.int .i64 q8,.string q9]) rfl (by kernel_rfl) (by kernel_rfl) (by kernel_rfl) HU9.out (by kernel_rfl) (fun u hu => by have kx:=HX69.out.below hu;have z0:=kx.cell 0 _ rfl;have z1:=kx.cell 1 _ rfl;have z2:=kx.cell 2 _ rfl;have z3:=kx.cell 3 _ rfl;have z4:=kx.cell 4 _ rfl;have z5:=kx.cell 5 _ rfl;have z6:=kx.cell 6 _ rfl;have z7:=kx.cell 7 _ rfl;have z8:=kx.cell 8 _ rfl;have z9:=kx.cell 9 _ rfl;go_simp) ?_
  simp only [pS,List.set,zT,zZ,zU]
  refine FreeW.call (i:=42) (f:=21) (args:=#[.agg #[.int .i64 q0,.int .i64 q1,.int .i64 q2,.int .i64 q3,.int .i64 q4,.int .i64 q5,.string q6,.string q7,.int .i64 q8,.string q9]]) (by kernel_rfl) rfl (by kernel_rfl) (by go_simp) ?_
  refine Calls.mono (implDeedRight_any q0 q1 q2 q3 q4 q5 q6 q7 q8 q9 _ h6 h7 h9) ?_
  rintro e x10 ⟨rfl,hb⟩
  have HU10:=qH (HU9.out.trans (hb.mono HU9.out.size))
  clear hb
  refine ⟨_,rfl,HU10.out,?_⟩
  simp only [pS,List.set,zT,zZ,zU]
  refine FreeW.call (i:=44) (f:=22) (args:=#[.agg #[.int .i64 q0,.int .i64 q1,.int .i64 q2,.int .i64 q3,.int .i64 q4,.int .i64 q5,.string q6,.string q7,.int .i64 q8,.string q9]]) (by kernel_rfl) rfl (by kernel_rfl) (by go_simp) ?_
  refine Calls.mono (specDeedRight_any q0 q1 q2 q3 q4 q5 q6 q7 q8 q9 _ h6 h7 h9) ?_
  rintro e x11 ⟨rfl,hb⟩
  have HU11:=qH (HU10.out.trans (hb.mono HU10.out.size))
  clear hb
  refine ⟨_,rfl,HU11.out,?_⟩
  simp only [pS,List.set,zT,zZ,zU]
  refine FreeW.take (i:=45) (v:=.bool false) rfl (by kernel_rfl) (by kernel_rfl) (by kernel_rfl) HU11.out (by kernel_rfl) (fun u hu => by go_simp) ?_
  simp only [pS,List.set,zT,zZ,zU]
  refine FreeW.take (i:=46) (v:=.bool false) rfl (by kernel_rfl) (by kernel_rfl) (by kernel_rfl) HU11.out (by kernel_rfl) (fun u hu => by go_simp) ?_
  simp only [pS,List.set,zT,zZ,zU]
  refine FreeW.take (i:=47) (v:=.bool false) rfl (by kernel_rfl) (by kernel_rfl) (by kernel_rfl) HU11.out (by kernel_rfl) (fun u hu => by go_simp) ?_
  simp only [pS,List.set,zT,zZ,zU]
  refine FreeW.take (i:=48) (v:=.agg #[.int .i64 b.c0,.int .i64 b.c1,.int .i64 b.c2,.int .i64 b.c3,.slice e1 n1 e3,.slice e2 n2 e4]) rfl (by kernel_rfl) (by kernel_rfl) (by kernel_rfl) HU11.out (by kernel_rfl) (fun u hu => by have kx:=HX59.out.below hu;have z0:=kx.cell 0 _ rfl;have z1:=kx.cell 1 _ rfl;have z2:=kx.cell 2 _ rfl;have z3:=kx.cell 3 _ rfl;have z4:=kx.cell 4 _ rfl;have z5:=kx.cell 5 _ rfl;go_simp) ?_
  simp only [pS,List.set,zT,zZ,zU]
  refine FreeW.take (i:=50) (v:=.agg #[.int .i64 b.c0,.int .i64 b.c1,.int .i64 b.c2,.int .i64 b.c3,.slice e1 n1 e3,.slice e2 n2 e4]) rfl (by kernel_rfl) (by kernel_rfl) (by kernel_rfl) HU11.out (by kernel_rfl) (fun u hu => by have kx:=HX59.out.below hu;have z0:=kx.cell 0 _ rfl;have z1:=kx.cell 1 _ rfl;have z2:=kx.cell 2 _ rfl;have z3:=kx.cell 3 _ rfl;have z4:=kx.cell 4 _ rfl;have z5:=kx.cell 5 _ rfl;go_simp) ?_
  simp only [pS,List.set,zT,zZ,zU]
  refine FreeW.call (i:=49) (f:=23) (args:=#[.agg #[.int .i64 b.c0,.int .i64 b.c1,.int .i64 b.c2,.int .i64 b.c3,.slice e1 n1 e3,.slice e2 n2 e4]]) (by kernel_rfl) rfl (by kernel_rfl) (by go_simp) ?_
  refine Calls.mono (implBookRight_any b e1 e2 n1 n2 e3 e4 _ (HBK9.out.below HU11.out) HBS.out.1.1 HBS.out.1.2 HBS.out.2.1 HBS.out.2.2) ?_
  rintro e x12 ⟨rfl,hb⟩
  have HU12:=qH (HU11.out.trans (hb.mono HU11.out.size))
  clear hb
  refine ⟨_,rfl,HU12.out,?_⟩
  simp only [pS,List.set,zT,zZ,zU]
  refine FreeW.call (i:=51) (f:=18) (args:=#[.agg #[.int .i64 b.c0,.int .i64 b.c1,.int .i64 b.c2,.int .i64 b.c3,.slice e1 n1 e3,.slice e2 n2 e4]]) (by kernel_rfl) rfl (by kernel_rfl) (by go_simp) ?_
  refine Calls.mono (specBookRight_any b e1 e2 n1 n2 e3 e4 _ (HBK9.out.below HU12.out) HBS.out.1.1 HBS.out.1.2 HBS.out.2.1 HBS.out.2.2) ?_
  rintro e x13 ⟨rfl,hb⟩
  have HU13:=qH (HU12.out.trans (hb.mono HU12.out.size))
  clear hb
  refine ⟨_,rfl,HU13.out,?_⟩
  simp only [pS,List.set,zT,zZ,zU]
  refine FreeW.take (i:=52) (v:=.bool false) rfl (by kernel_rfl) (by kernel_rfl) (by kernel_rfl) HU13.out (by kernel_rfl) (fun u hu => by go_simp) ?_
  simp only [pS,List.set,zT,zZ,zU]
  refine FreeW.take (i:=53) (v:=.bool false) rfl (by kernel_rfl) (by kernel_rfl) (by kernel_rfl) HU13.out (by kernel_rfl) (fun u hu => by go_simp) ?_
  simp only [pS,List.set,zT,zZ,zU]
  refine FreeW.done (by kernel_rfl) ?_ _
  go_wp2_with fail
  go_meet
  exact ⟨rfl,HU13.out⟩
 case rest =>
  obtain ⟨rfl,hcb⟩:=hcut
  have HBC:=qH (HB9.out.trans (hcb.mono HB9.out.size))
  have HXC:=qH (HX9.out.below hcb)
  have HYC:=qH (HY9.out.below hcb)
  have HDSC:=qH (SR.below HDS9.out hcb)
  have HOK:=qH (show ∀ i,i < k1 -> txOk (LL i) = true by intro i hi;rw [HLL.out];exact rd_at (by rw [<- HK0.out];exact hi))
  have hk8 : k1 <= 8001:=by rw [HK0.out];exact txRd_len u
  clear hcb HB9 HX9 HY9 HDS9 HX59 HX69 HBK9 HXR9 HRO9 HBS HRS HRL h6 h7 h9 hwz hD HDB HSM HQ HWD HRR HRB
  go_wp2_with fail
  go_loopw [14] (fun i wr => ∃ j : Nat,j <= k1 /\ i = .int .i64 j /\ Below wc.heap.size wc wr) (fun i _ => k1 - (intOf i).toNat)
  case atStart => exact ⟨0,Nat.zero_le _,rfl,Below.refl _ _⟩
  case round =>
   obtain ⟨j,hj,rfl,hF⟩:=hrel
   by_cases hlt : j < k1
   · obtain ⟨g,o,rfl,hx⟩:=row_at HR0.out (HXC.out.below hF) hlt
     obtain ⟨g',o',rfl,hy⟩:=row_at HR1.out (HYC.out.below hF) hlt
     have HXJ:=qH hx
     have HYJ:=qH hy
     have HLJ:=qH (HOK.out j hlt)
     generalize (rs.getD j rwD).a = xj0 at *
     generalize (qs.getD j rwD).a = yj0 at *
     generalize (rs.getD j rwD).n = xj1 at *
     generalize (qs.getD j rwD).n = yj1 at *
     generalize (rs.getD j rwD).c = xj2 at *
     generalize (qs.getD j rwD).c = yj2 at *
     clear hx hy
     have HF:=qH hF
     clear hF
     have hin : 0 <= (j : Int) /\ (j : Int) < (k1 : Int):=by omega
     go_upto_region 15 with fail
     have HXN:=qH (row_max HLJ.out (HXJ.out _ (Below.refl _ _)).2)
     have HYN:=qH (row_max HLJ.out (HYJ.out _ (Below.refl _ _)).2)
     obtain ⟨tj,htj⟩ : ∃ s,s = txS (LL j):=⟨_,rfl⟩
     have HTJ:=qH htj
     have hne : (tj.toList == ([] : List UInt8)) = false:=by rw [htj];exact ne_nil (txS_some HLJ.out)
     clear htj
     refine FreeW.region hmx (fun u => Below wr.heap.size wr u) ?_
     have HU0 : Hid (Below wr.heap.size wr wr.drew):=qH (Below.refl _ _).drew
     generalize wr.drew = x0 at *
     refine FreeW.take (i:=0) (v:=.slice (some ⟨g,o,none⟩) k1 xc) rfl (by kernel_rfl) (by kernel_rfl) (by kernel_rfl) HU0.out (by kernel_rfl) (fun u hu => by go_simp) ?_
     simp only [pS,List.set,zT,zZ]
     refine FreeW.take (i:=1) (v:=.int .i64 j) rfl (by kernel_rfl) (by kernel_rfl) (by kernel_rfl) HU0.out (by kernel_rfl) (fun u hu => by go_simp) ?_
     simp only [pS,List.set,zT,zZ,zU]
     refine FreeW.take (i:=5) (v:=.slice (some ⟨g',o',none⟩) k1 yc) rfl (by kernel_rfl) (by kernel_rfl) (by kernel_rfl) HU0.out (by kernel_rfl) (fun u hu => by go_simp) ?_
     simp only [pS,List.set,zT,zZ,zU]
     refine FreeW.take (i:=6) (v:=.int .i64 j) rfl (by kernel_rfl) (by kernel_rfl) (by kernel_rfl) HU0.out (by kernel_rfl) (fun u hu => by go_simp) ?_
     simp only [pS,List.set,zT,zZ,zU]
     refine FreeW.take (i:=2) (v:=.pointer (some ⟨g,o + j,none⟩)) rfl (by kernel_rfl) (by kernel_rfl) (by kernel_rfl) HU0.out (by kernel_rfl) (fun u hu => by go_simp) ?_
     simp only [pS,List.set,zT,zZ,zU]
     refine FreeW.take (i:=3) (v:=.slice xj0 xj1 xj2) rfl (by kernel_rfl) (by kernel_rfl) (by kernel_rfl) HU0.out (by kernel_rfl) (fun u hu => by have z0:=(HXJ.out u hu).1;go_simp) ?_
     simp only [pS,List.set,zT,zZ,zU]
     refine FreeW.take (i:=7) (v:=.pointer (some ⟨g',o' + j,none⟩)) rfl (by kernel_rfl) (by kernel_rfl) (by kernel_rfl) HU0.out (by kernel_rfl) (fun u hu => by go_simp) ?_
     simp only [pS,List.set,zT,zZ,zU]
     refine FreeW.take (i:=8) (v:=.slice yj0 yj1 yj2) rfl (by kernel_rfl) (by kernel_rfl) (by kernel_rfl) HU0.out (by kernel_rfl) (fun u hu => by have z0:=(HYJ.out u hu).1;go_simp) ?_
     simp only [pS,List.set,zT,zZ,zU]
     refine FreeW.call (i:=4) (f:=6) (args:=#[.slice xj0 xj1 xj2]) (by kernel_rfl) rfl (by kernel_rfl) (by go_simp) ?_
     refine Calls.mono (implTxBytes_any xj0 xj1 xj2 (LL j) _ (HXJ.out _ HU0.out).2 HXN.out.1 HXN.out.2) ?_
     rintro e x1 ⟨rfl,hb⟩
     have HU1:=qH (HU0.out.trans (hb.mono HU0.out.size))
     rw [<- HTJ.out]
     clear hb
     refine ⟨_,rfl,HU1.out,?_⟩
     simp only [pS,List.set,zT,zZ,zU]
     refine FreeW.call (i:=9) (f:=15) (args:=#[.slice yj0 yj1 yj2]) (by kernel_rfl) rfl (by kernel_rfl) (by go_simp) ?_
     refine Calls.mono (specTxBytes_any yj0 yj1 yj2 (LL j) _ (HYJ.out _ HU1.out).2 HYN.out.1 HYN.out.2) ?_
     rintro e x2 ⟨rfl,hb⟩
     have HU2:=qH (HU1.out.trans (hb.mono HU1.out.size))
     rw [<- HTJ.out]
     clear hb
     refine ⟨_,rfl,HU2.out,?_⟩
     simp only [pS,List.set,zT,zZ,zU]
     refine FreeW.take (i:=10) (v:=.bool false) rfl (by kernel_rfl) (by kernel_rfl) (by kernel_rfl) HU2.out (by kernel_rfl) (fun u hu => by go_simp) ?_
     simp only [pS,List.set,zT,zZ,zU]
     refine FreeW.take (i:=11) (v:=.bool false) rfl (by kernel_rfl) (by kernel_rfl) (by kernel_rfl) HU2.out (by kernel_rfl) (fun u hu => by go_simp) ?_
     simp only [pS,List.set,zT,zZ,zU]
     refine FreeW.take (i:=12) (v:=.slice (some ⟨g,o,none⟩) k1 xc) rfl (by kernel_rfl) (by kernel_rfl) (by kernel_rfl) HU2.out (by kernel_rfl) (fun u hu => by go_simp) ?_
     simp only [pS,List.set,zT,zZ,zU]
     refine FreeW.take (i:=13) (v:=.int .i64 j) rfl (by kernel_rfl) (by kernel_rfl) (by kernel_rfl) HU2.out (by kernel_rfl) (fun u hu => by go_simp) ?_
     simp only [pS,List.set,zT,zZ,zU]
     refine FreeW.take (i:=14) (v:=.pointer (some ⟨g,o + j,none⟩)) rfl (by kernel_rfl) (by kernel_rfl) (by kernel_rfl) HU2.out (by kernel_rfl) (fun u hu => by go_simp) ?_
     simp only [pS,List.set,zT,zZ,zU]
     refine FreeW.take (i:=15) (v:=.slice xj0 xj1 xj2) rfl (by kernel_rfl) (by kernel_rfl) (by kernel_rfl) HU2.out (by kernel_rfl) (fun u hu => by have z0:=(HXJ.out u hu).1;go_simp) ?_
     simp only [pS,List.set,zT,zZ,zU]
     refine FreeW.call (i:=16) (f:=15) (args:=#[.slice xj0 xj1 xj2]) (by kernel_rfl) rfl (by kernel_rfl) (by go_simp) ?_
     refine Calls.mono (specTxBytes_any xj0 xj1 xj2 (LL j) _ (HXJ.out _ HU2.out).2 HXN.out.1 HXN.out.2) ?_
     rintro e x3 ⟨rfl,hb⟩
     have HU3:=qH (HU2.out.trans (hb.mono HU2.out.size))
     rw [<- HTJ.out]
     clear hb
     refine ⟨_,rfl,HU3.out,?_⟩
     simp only [pS,List.set,zT,zZ,zU]
     refine FreeW.take (i:=17) (v:=.bool false) rfl (by kernel_rfl) (by kernel_rfl) (by kernel_rfl) HU3.out (by kernel_rfl) (fun u hu => by go_simp) ?_
     simp only [pS,List.set,zT,zZ,zU]
     refine FreeW.take (i:=18) (v:=.bool false) rfl (by kernel_rfl) (by kernel_rfl) (by kernel_rfl) HU3.out (by kernel_rfl) (fun u hu => by go_simp) ?_
     simp only [pS,List.set,zT,zZ,zU]
     refine FreeW.done (by kernel_rfl) ?_ _
     have hFe:=HF.out.trans (HU3.out.mono HF.out.size)
     go_wp2_with fail
     go_roundw
     case rel => exact ⟨j + 1,by omega,by go_num,hFe⟩
     case measure => simp [intOf];omega
   · obtain rfl : k1 = j:=by omega
     have HBL:=qH (HBC.out.trans (hF.mono HBC.out.size))
     have HXL:=qH (HXC.out.below hF)
     have HDSL:=qH (SR.below HDSC.out hF)
     clear hF HBC HXC HYC HDSC
     go_wp2_with fail
     refine (implTxRead_any t _ (Nat.le_trans HTZ.out (by decide)) (hg.below HBL.out)).mono ?_
     rintro e w11 ⟨za,zk,zc,zs,rfl,hk,hs,hm,hb⟩
     have HB11:=qH (HBL.out.trans (hb.mono HBL.out.size))
     have HX11:=qH (HXL.out.below hb)
     have hz:=hs.info hm
     have HZK:=qH hk
     have HZL:=qH hz.1
     have HZS:=qH hz.2.1
     have HDS11:=qH (SR.below HDSL.out hb)
     clear hk hs hm hz hb HBL HXL HDSL
     go_upto_region 18 with fail
     go_cut [140] from 124 (fun v u => v = .bool false /\ Below w11.heap.size w11 u)
     case first =>
      by_cases hok : txOk ds = true
      · have HR1':=qH (show txRd t = [ds] by rw [HT.out];exact txRd_tx hok)
        have hne : (t.toList == ([] : List UInt8)) = false:=by rw [HT.out];exact ne_nil (txS_some hok)
        have HDM:=qH (txOk_max hok)
        have hz1 : zk = 1:=by rw [HZK.out,HZL.out,HR1'.out];rfl
        obtain ⟨g,o,rfl,hx⟩:=row_at HZK.out HZS.out (show 0 < zk by omega)
        subst hz1
        have HXJ:=qH (hx _ (Below.refl _ _))
        have z0 : w11.cell? ⟨g,o,none⟩ = some (.slice (zs.getD 0 rwD).a (zs.getD 0 rwD).n (zs.getD 0 rwD).c):=HXJ.out.1
        have HD0:=qH (show DdR w11 (zs.getD 0 rwD).a (zs.getD 0 rwD).n (zs.getD 0 rwD).c ds by have:=HXJ.out.2;rw [HR1'.out] at this;exact this)
        have HDN:=qH (row_max hok HD0.out)
        generalize (zs.getD 0 rwD).a = zj0 at *
        generalize (zs.getD 0 rwD).n = zj1 at *
        generalize (zs.getD 0 rwD).c = zj2 at *
        clear hx
        go_wp2_with fail
        refine (specTxBytes_any zj0 zj1 zj2 ds _ HD0.out HDN.out.1 HDN.out.2).mono ?_
        rintro e w12 ⟨rfl,hb⟩
        rw [<- HT.out]
        go_wp2_with fail
        go_meet
        exact ⟨rfl,hb⟩
      · have ht0 : t = ⟨#[]⟩:=by rw [HT.out];exact txS_no (by simpa using hok)
        clear HT
        subst ht0
        go_wp2_with fail
        go_meet
        exact ⟨rfl,Below.refl _ _⟩
     case rest =>
      obtain ⟨rfl,hcb⟩:=hcut
      have HB12:=qH (HB11.out.trans (hcb.mono HB11.out.size))
      have HX12:=qH (HX11.out.below hcb)
      have hu8 : u.size <= 8000:=HU.out
      clear hcb HB11 HX11 HDS11 HZK HZL HZS
      go_wp2_with fail
      refine (lwAt_any a1 len1 cap1 0 ((u.size : Int) + 1) _ (HC1.out.below HB12.out) hl1 (by omega) (by omega)).mono ?_
      rintro e w13 ⟨r,rfl,hr0,hr1,rfl⟩
      obtain ⟨q,rfl⟩ : ∃ q : Nat,r = q:=⟨r.toNat,by omega⟩
      have hqu : q <= u.size:=by omega
      clear hr0 hr1
      go_wp2_with fail
      have hPR:=pre_at hqu hu8
      have hpz : (u.extract 0 q).size <= 8000:=by rw [ByteArray.size_extract];omega
      generalize u.extract 0 q = pu at *
      refine (implTxRead_any pu _ (Nat.le_trans hpz (by decide)) (hg.below HB12.out)).mono ?_
      rintro e w14 ⟨pa,pk,pc,ps,rfl,hk,hs,hm,hb⟩
      have hp:=hs.info hm
      have HB14:=qH (HB12.out.trans (hb.mono HB12.out.size))
      have HX14:=qH (HX12.out.below hb)
      have HPK:=qH hk
      have hpl : pk = (txRd pu).length:=hk.trans hp.1
      have HP14:=qH hp.2.1
      have hpk : pk <= k1:=by rw [hpl,HK0.out];exact hPR.1
      have HPE:=qH (show ∀ i,i < pk -> (txRd pu).getD i [] = LL i by intro i hi;rw [HLL.out];exact hPR.2 i (by omega))
      have hgt : ¬ (k1 : Int) < (pk : Int):=by omega
      clear hp hs hm hk hb hPR hpz HB12 HX12 hpl
      go_wp2_with fail
      go_loopw [17] (fun i wr => ∃ j : Nat,j <= pk /\ i = .int .i64 j /\ Below w14.heap.size w14 wr) (fun i _ => pk - (intOf i).toNat)
      case atStart => exact ⟨0,Nat.zero_le _,rfl,Below.refl _ _⟩
      case round =>
       obtain ⟨j,hj,rfl,hF⟩:=hrel
       by_cases hlt : j < pk
       · obtain ⟨g,o,rfl,hx⟩:=row_at HR0.out (HX14.out.below hF) (show j < k1 by omega)
         obtain ⟨g',o',rfl,hy⟩:=row_at HPK.out (HP14.out.below hF) hlt
         have HXJ:=qH hx
         have HYJ:=qH (show ∀ u,Below wr.heap.size wr u -> u.cell? ⟨g',o' + j,none⟩ = some (.slice (ps.getD j rwD).a (ps.getD j rwD).n (ps.getD j rwD).c) /\ DdR u (ps.getD j rwD).a (ps.getD j rwD).n (ps.getD j rwD).c (LL j) by intro u hu;have:=hy u hu;rw [HPE.out j hlt] at this;exact this)
         have HLJ:=qH (HOK.out j (by omega))
         generalize (rs.getD j rwD).a = xj0 at *
         generalize (ps.getD j rwD).a = yj0 at *
         generalize (rs.getD j rwD).n = xj1 at *
         generalize (ps.getD j rwD).n = yj1 at *
         generalize (rs.getD j rwD).c = xj2 at *
         generalize (ps.getD j rwD).c = yj2 at *
         clear hx hy
         have HF:=qH hF
         clear hF
         have hin : 0 <= (j : Int) /\ (j : Int) < (pk : Int):=by omega
         have hin2 : 0 <= (j : Int) /\ (j : Int) < (k1 : Int):=by omega
         have HXN:=qH (row_max HLJ.out (HXJ.out _ (Below.refl _ _)).2)
         have HYN:=qH (row_max HLJ.out (HYJ.out _ (Below.refl _ _)).2)
         obtain ⟨tj,htj⟩ : ∃ s,s = txS (LL j):=⟨_,rfl⟩
         have HTJ:=qH htj
         clear htj
         go_upto_region 26 with fail
         refine FreeW.region hmx (fun u => Below wr.heap.size wr u) ?_
         have HU0 : Hid (Below wr.heap.size wr wr.drew):=qH (Below.refl _ _).drew
         generalize wr.drew = x0 at *
         refine FreeW.take (i:=0) (v:=.slice (some ⟨g',o',none⟩) pk pc) rfl (by kernel_rfl) (by kernel_rfl) (by kernel_rfl) HU0.out (by kernel_rfl) (fun u hu => by go_simp) ?_
         simp only [pS,List.set,zT,zZ]
         refine FreeW.take (i:=1) (v:=.int .i64 j) rfl (by kernel_rfl) (by kernel_rfl) (by kernel_rfl) HU0.out (by kernel_rfl) (fun u hu => by go_simp) ?_
         simp only [pS,List.set,zT,zZ,zU]
         refine FreeW.take (i:=5) (v:=.slice (some ⟨g,o,none⟩) k1 xc) rfl (by kernel_rfl) (by kernel_rfl) (by kernel_rfl) HU0.out (by kernel_rfl) (fun u hu => by go_simp) ?_
         simp only [pS,List.set,zT,zZ,zU]
         refine FreeW.take (i:=6) (v:=.int .i64 j) rfl (by kernel_rfl) (by kernel_rfl) (by kernel_rfl) HU0.out (by kernel_rfl) (fun u hu => by go_simp) ?_
         simp only [pS,List.set,zT,zZ,zU]
         refine FreeW.take (i:=2) (v:=.pointer (some ⟨g',o' + j,none⟩)) rfl (by kernel_rfl) (by kernel_rfl) (by kernel_rfl) HU0.out (by kernel_rfl) (fun u hu => by go_simp) ?_
         simp only [pS,List.set,zT,zZ,zU]
         refine FreeW.take (i:=3) (v:=.slice yj0 yj1 yj2) rfl (by kernel_rfl) (by kernel_rfl) (by kernel_rfl) HU0.out (by kernel_rfl) (fun u hu => by have z0:=(HYJ.out u hu).1;go_simp) ?_
         simp only [pS,List.set,zT,zZ,zU]
         refine FreeW.take (i:=7) (v:=.pointer (some ⟨g,o + j,none⟩)) rfl (by kernel_rfl) (by kernel_rfl) (by kernel_rfl) HU0.out (by kernel_rfl) (fun u hu => by go_simp) ?_
         simp only [pS,List.set,zT,zZ,zU]
         refine FreeW.take (i:=8) (v:=.slice xj0 xj1 xj2) rfl (by kernel_rfl) (by kernel_rfl) (by kernel_rfl) HU0.out (by kernel_rfl) (fun u hu => by have z0:=(HXJ.out u hu).1;go_simp) ?_
         simp only [pS,List.set,zT,zZ,zU]
         refine FreeW.call (i:=4) (f:=15) (args:=#[.slice yj0 yj1 yj2]) (by kernel_rfl) rfl (by kernel_rfl) (by go_simp) ?_
         refine Calls.mono (specTxBytes_any yj0 yj1 yj2 (LL j) _ (HYJ.out _ HU0.out).2 HYN.out.1 HYN.out.2) ?_
         rintro e x1 ⟨rfl,hb⟩
         have HU1:=qH (HU0.out.trans (hb.mono HU0.out.size))
         rw [<- HTJ.out]
         clear hb
         refine ⟨_,rfl,HU1.out,?_⟩
         simp only [pS,List.set,zT,zZ,zU]
         refine FreeW.call (i:=9) (f:=15) (args:=#[.slice xj0 xj1 xj2]) (by kernel_rfl) rfl (by kernel_rfl) (by go_simp) ?_
         refine Calls.mono (specTxBytes_any xj0 xj1 xj2 (LL j) _ (HXJ.out _ HU1.out).2 HXN.out.1 HXN.out.2) ?_
         rintro e x2 ⟨rfl,hb⟩
         have HU2:=qH (HU1.out.trans (hb.mono HU1.out.size))
         rw [<- HTJ.out]
         clear hb
         refine ⟨_,rfl,HU2.out,?_⟩
         simp only [pS,List.set,zT,zZ,zU]
         refine FreeW.take (i:=10) (v:=.bool false) rfl (by kernel_rfl) (by kernel_rfl) (by kernel_rfl) HU2.out (by kernel_rfl) (fun u hu => by go_simp) ?_
         simp only [pS,List.set,zT,zZ,zU]
         refine FreeW.done (by kernel_rfl) ?_ _
         have hFe:=HF.out.trans (HU2.out.mono HF.out.size)
         go_wp2_with fail
         go_roundw
         case rel => exact ⟨j + 1,by omega,by go_num,hFe⟩
         case measure => simp [intOf];omega
       · have HBE:=qH (HB14.out.trans (hF.mono HB14.out.size))
         clear hF
         go_wp2_with fail
         go_ret
         exact ⟨rfl,HBE.out⟩
theorem contract (H : Type) (enc : TypeId × Value -> H) (W : World) (base : Nat) (args : Array Value) (ds gs : List (DataW H)) (before : List MemPlace)
 (hval0 : ∀ (j : Nat) t v,Tryz.f3.params[j]? = some t -> args[j]? = some v -> Value.okWide Tryz.prog W .any base t v)
 (hW : DataW.Whole enc Tryz.prog Tryz.f3.params.toList Rows.fnBookSpec.vars false W args.toList ds gs before) (hL : laidMetH Tryz.prog laidL W) :
 Calls Tryz.prog 3 args W fun e W' => ∃ v,e = .returned v /\ Rows.fnBookSpec.post enc Tryz.prog Tryz.f3 false true false false W args v W':=by
 have hval : ∀ (j : Nat) t v,Tryz.f3.params[j]? = some t -> args[j]? = some v -> Value.okWide Tryz.prog W .any base t v:=hval0
 have hW':=hW
 obtain ⟨p,q,hA0,hV,rfl,hfz,hnd⟩:=hW
 have hA : DataW.TrodAll enc Tryz.prog W 0 (fun _ => true) true Tryz.f3.params.toList args.toList ds p:=hA0
 rw [Tryz.params3] at hA hval
 obtain ⟨v0,vs0,d0,ds0,p0,q0,hargs,rfl,rfl,h0,r0⟩:=trodAll_cons hA
 obtain ⟨v1,vs1,d1,ds1,p1,q1,rfl,rfl,rfl,h1,r1⟩:=trodAll_cons r0
 obtain ⟨rfl,rfl,rfl⟩:=trodAll_nil r1
 obtain rfl : args = #[v0,v1]:=by cases args;simp_all
 obtain ⟨rfl,rfl⟩:=trodVars_none hV
 obtain ⟨a0,len0,cap0,rfl⟩:=okWide_slice Tryz.underlying22 (hval 0 22 v0 rfl rfl)
 have k0:=h0
 have lt0 : ∀ x ∈ p0,x.block < W.heap.size:=by obtain ⟨m,hm⟩:=k0;exact DataW.trod_lt m _ _ _ hm
 obtain ⟨z0,w0⟩ : ∃ zs,IsRow .u8 W a0 len0 cap0 zs:=by
  obtain ⟨fuel,hf⟩:=h0
  rcases open_ints Tryz.underlying22 Tryz.underlying5 (by kernel_rfl) hf with ⟨hcs,_⟩ | ⟨x,l,c,zs,hcs,_,hl,hm,hz,_,hcell,hwz⟩
  · simp [Value.cells] at hcs
    obtain ⟨rfl,rfl,rfl⟩:=hcs
    exact ⟨[],.inl ⟨rfl,rfl,rfl,rfl⟩⟩
  · simp [Value.cells] at hcs
    obtain ⟨rfl,rfl,rfl⟩:=hcs
    exact ⟨zs,.inr ⟨_,rfl,hl,hm,by simpa using hz,hcell,hwz⟩⟩
 obtain ⟨a1,len1,cap1,rfl⟩:=okWide_slice Tryz.underlying22 (hval 1 22 v1 rfl rfl)
 have k1:=h1
 have lt1 : ∀ x ∈ p1,x.block < W.heap.size:=by obtain ⟨m,hm⟩:=k1;exact DataW.trod_lt m _ _ _ hm
 obtain ⟨z1,w1⟩ : ∃ zs,IsRow .u8 W a1 len1 cap1 zs:=by
  obtain ⟨fuel,hf⟩:=h1
  rcases open_ints Tryz.underlying22 Tryz.underlying5 (by kernel_rfl) hf with ⟨hcs,_⟩ | ⟨x,l,c,zs,hcs,_,hl,hm,hz,_,hcell,hwz⟩
  · simp [Value.cells] at hcs
    obtain ⟨rfl,rfl,rfl⟩:=hcs
    exact ⟨[],.inl ⟨rfl,rfl,rfl,rfl⟩⟩
  · simp [Value.cells] at hcs
    obtain ⟨rfl,rfl,rfl⟩:=hcs
    exact ⟨zs,.inr ⟨_,rfl,hl,hm,by simpa using hz,hcell,hwz⟩⟩
 clear hA0 hval0
 refine (walk a0 len0 cap0 z0 a1 len1 cap1 z1 W w0 w1 (et_of_laid hL)).mono fun e W' ⟨he,bel⟩ => ?_
 subst he
 exact ⟨_,rfl,_,_,_,[],_,[],hW',trodAll_mk1 (shut_bool Tryz.underlying4 _),(trodAll_cons_mk (Below.trod laidOut (by kernel_rfl) (of_decide_eq_true (by kernel_rfl)) k0 bel lt0) (trodAll_cons_mk (Below.trod laidOut (by kernel_rfl) (of_decide_eq_true (by kernel_rfl)) k1 bel lt1) trodAll_mk0)),rfl,bel.frame _,fun h => by cases h⟩
theorem reads (os : Os) {H : Type} (enc : TypeId × Value -> H) : ∃ places,DataW.whole enc Tryz.prog ((laidWorld os).forCall (fun _ _ => 0) ⟨#[],#[Value.slice none 0 0,Value.slice none 0 0],[]⟩).memory Tryz.f3.params.toList Rows.fnBookSpec.vars false (#[Value.slice none 0 0,Value.slice none 0 0] : Array Value).toList 8 = some ([.nil,.nil],[],places) :=
 ⟨[],by kernel_rfl⟩
theorem lifted (os : Os) (started : os.Started) (H : Type) (enc : TypeId × Value -> H) (F : Stop.Interp) :
 ReturnsInHanded {} Tryz.checked os 3 .any ((OpenSpec.ofChange Rows.fnBookSpec).preRow enc Tryz.prog Tryz.f3 Rows.fnBookRow.domain false Rows.fnBookRow.laid) (((OpenSpec.ofChange Rows.fnBookSpec).at F).post enc Tryz.prog Tryz.f3 false true false false):=by
 obtain ⟨places,hx⟩:=reads os enc
 refine returnsInHanded_of_row (C:=Tryz.checked) (s:=OpenSpec.ofChange Rows.fnBookSpec) door_own started (by kernel_rfl) Tryz.func3
  (witness_row_at (enc:=enc) (C:=Tryz.checked) false (laidWorld os) #[Value.slice none 0 0,Value.slice none 0 0] rfl (by kernel_rfl) (by kernel_rfl) (by kernel_rfl)
   (OpenSpec.preRow_of_cond 8 hx (by kernel_rfl) (fun k hk => by cases hk) (by kernel_rfl) (laidWorld_met os _))) ?_
 intro W base args ds gs before hval hW _ _ _ hL _ _
 exact contract H enc W base args ds gs before hval hW hL
theorem said : Rows.FnBookSaid :=
 OpenClaim.holds_of_cond 3 Tryz.f3 rfl rfl rfl rfl rfl rfl rfl ⟨rfl,rfl,rfl,rfl,rfl⟩ rfl rfl rfl rfl rfl (by kernel_rfl) Tryz.func3 (by kernel_rfl)
  (of_decide_eq_true (by kernel_rfl)) (by unfold Func.isWrapper;first | (rw [if_pos (by decide +kernel)];kernel_rfl) | (rw [if_neg (by decide +kernel)];exact ⟨rfl,rfl⟩))
  (fun os started H enc _ F => by rw [OpenClaim.pre_eq_preRow];exact lifted os started H enc F)
theorem plain (f : FuncId) (fn : Func) (hf : Tryz.pinned.checked.prog.funcNamed "loop.example/g00839/laws.FnBook" = some f) (hfn : Tryz.pinned.checked.prog.funcs[f]? = some fn) :
 true = Tryz.pinned.checked.prog.looks [] /\ ∀ (j : Nat) t,fn.params[j]? = some t -> Tryz.pinned.checked.prog.wantsStandIn t = false:=by
 obtain rfl : f = 3 := Option.some.inj ((show Tryz.prog.funcNamed "loop.example/g00839/laws.FnBook" = some 3 by kernel_rfl).symm.trans hf) |>.symm
 obtain rfl : fn = Tryz.f3:=(Option.some.inj (Tryz.func3.symm.trans hfn)).symm
 refine ⟨by kernel_rfl,fun j t ht => ?_⟩
 rw [Tryz.params3] at ht
 have h : t = 22 ∨ t = 22:=by simpa using Array.mem_of_getElem? ht
 rcases h with rfl | rfl
 · exact (show Tryz.prog.wantsStandIn 22 = false by kernel_rfl)
 · exact (show Tryz.prog.wantsStandIn 22 = false by kernel_rfl)
theorem proved : Rows.FnBookCardSaid :=
 Claim7.holds_tied_plain_at .later [] _ _ _ _ said (fun _ h => by cases h) (by kernel_rfl) (fun _ h => by cases h) fnBook_row_tie rfl ⟨rfl,rfl⟩ (by kernel_rfl) rfl plain (by kernel_rfl)
end Go.Proofs.YtbgoldeopmlbnaaGreatDoor.fnBook
