/- Used by the law. -/
import Derived.Test.YtbgoldeopmlbnaaGreatDoorQB25
set_option maxRecDepth 100000
set_option maxHeartbeats 16000000
namespace Go.Proofs.YtbgoldeopmlbnaaGreatDoor
open Go.RowKit Go.PlainAid G MGF IRow MNum
set_option linter.unusedVariables false
theorem bytesN_c (p cb co sl sc : Nat) (sa : Option Addr) (n : Int) (w : World) (hSC : SrcC w p cb co sl sc sa) (hn : n <= 1000000) (hn0 : 0 <= n) :
 Calls Tryz.prog 62 #[.pointer (some ⟨p,0,none⟩),.int .i64 n] w fun e w' => ∃ x : ByteArray,e = .returned (.string x) /\ (x.size : Int) = n /\ DrawnC w w' p cb co sl sc sa:=by
 have hp:=hSC.lt
 have hcb:=hSC.code
 obtain ⟨i0,hi,hz0,hz1,hz2⟩:=info_parts infoU8
 go_enter Tryz.func62,Tryz.ntmps62
 go_wp2_with fail
 go_loopw [5,6] (fun v i wr => ∃ (zs : List Int),i = .int .i64 zs.length /\ (zs.length : Int) <= n /\ wr.ownsRow w.heap.size 5 1 v zs.length (zs.map (Value.int .u8)) /\ SrcC wr p cb co sl sc sa /\ w.grownBy wr (some p)) (fun _ i _ => n.toNat - (intOf i).toNat)
 case atStart => exact ⟨[],rfl,by simp;omega,World.ownsRow_made w #[] 0 (Nat.le_refl _) (by decide) rfl,hSC.kept (Below.heap_alloc _ _ _ hp) (fun h => Below.heap_alloc _ _ _ (hcb h)),World.grownBy_alloc _ _ _⟩
 case round =>
  obtain ⟨zs,rfl,hl,hown,hS1,hgr⟩:=hrel
  have hsz:=hgr.size
  by_cases hlt : (zs.length : Int) < n
  · go_wp2_with fail
    refine (n_c p cb co sl sc sa 256 wr hS1 (by omega)).mono ?_
    rintro e w2 ⟨r,rfl,r0,r1,hS2,hg2,hz2'⟩
    have hr : r <= 255:=by omega
    clear r1
    have hown2 : w2.ownsRow w.heap.size 5 1 u5 zs.length (zs.map (Value.int .u8)):=hown.kept hg2 (Or.inr (fun h => by have:=(hown.lt p h).1;omega))
    have HG2 : Hid (w.grownBy w2 (some p)):=grownBy_trans hgr hg2
    have HS2:=qH hS2
    have hlo:=hown2.lt
    have HLO:=qH hlo;clear hlo
    have hsz2 : w.heap.size <= w2.heap.size:=by omega
    clear hown hgr hS1 hg2 hz2' hsz hS2
    go_wp2_with (at_builtin;refine append_one_g rfl (.tmp 13) (.tmp 17) 22 rfl 5 i0 (.int .u8 0) 1 Tryz.underlying22 hi hz0 hz1 hz2 rfl w.heap.size _ _ _ rfl hown2 (.int .u8 r) _ rfl rfl hsz2 (by unfold maxLen;omega) (by omega) ?_;intro v' w3 hown3 hg3;have hown4 : w3.ownsRow w.heap.size 5 1 v' (zs ++ [r]).length ((zs ++ [r]).map (Value.int .u8)):=(by simpa using hown3);have HG3:=qH hg3;clear hown3 hg3 hown2)
    go_roundw
    case rel =>
     refine ⟨zs ++ [r],by simp,by simp;omega,hown4,HS2.out.kept (HG3.out.block p (by omega) (fun h => by have:=(HLO.out p h.symm).1;omega)) (fun h => HG3.out.block cb (by have:=hcb h;omega) (fun h' => by have:=(HLO.out cb h'.symm).1;have:=hcb h;omega)),grown_own HG2.out HG3.out (fun g hg => (HLO.out g hg).1)⟩
    case measure => simp [intOf];omega
  · have hcv:=conv_owned 22 9 5 Tryz.underlying22 Tryz.underlying5 Tryz.underlying9 _ _ _ _ hown
    have HF : Hid (DrawnC w wr p cb co sl sc sa):=⟨hS1,hgr⟩
    have HL : Hid ((zs.length : Int) = n):=qH (by omega)
    clear hown hgr hS1 hl
    go_wp2_with fail
    go_ret
    exact ⟨_,rfl,by rw [strOfNums_size];exact HL.out,HF.out⟩
theorem pickL_c (p cb co sl sc : Nat) (sa : Option Addr) (w : World) (ts : List ByteArray) (T : TypeId) (hS : SrcC w p cb co sl sc sa) (hk : 0 < ts.length) (hk2 : ts.length <= 1000) :
 Calls Tryz.prog 43 #[.pointer (some ⟨p,0,none⟩),.slice (some ⟨w.heap.size,0,none⟩) ts.length ts.length] (w.alloc (.cells (ts.map Value.string).toArray T)) fun e w' => (∃ x,x ∈ ts /\ e = .returned (.string x)) /\ DrawnC w w' p cb co sl sc sa:=by
 have hb : Below w.heap.size w (w.alloc (.cells (ts.map Value.string).toArray T)):=(Below.refl _ _).alloc (Nat.le_refl _) _
 refine (pick_c p cb co sl sc sa (w.alloc (.cells (ts.map Value.string).toArray T)) w.heap.size 0 ts (hS.below hb) hk hk2 (by rw [World.size_alloc];omega) (by have:=hS.lt;omega) (fun i hi => ?_)).mono ?_
 · rw [World.cell?_alloc_new]
   simp [hi]
 · rintro e w' ⟨⟨i,hi,rfl⟩,hD⟩
   exact ⟨⟨_,List.getElem_mem hi,rfl⟩,(⟨hS.below hb,grown_belowD (World.grownBy.refl _ _) hb⟩ : DrawnC w _ p cb co sl sc sa).trans hD⟩
def SomeDeedR (w : World) (p cb co sl sc : Nat) (sa : Option Addr) (e : Ending) (w' : World) : Prop :=
 ∃ (q0 q1 q2 q3 q4 q5 : Int) (q6 q7 : ByteArray) (q8 : Int) (q9 : ByteArray),e = .returned (.agg #[.int .i64 q0,.int .i64 q1,.int .i64 q2,.int .i64 q3,.int .i64 q4,.int .i64 q5,.string q6,.string q7,.int .i64 q8,.string q9]) /\ deedB q0 q1 q2 q3 q4 q5 q6 q7 q8 q9 = true /\ DrawnC w w' p cb co sl sc sa
theorem deedB_conf {g c : Int} (hg : 1 <= g /\ g <= 3) (hc : 0 <= c /\ c <= 999) : deedB 1 g 2 3 c 0 ⟨#[]⟩ ⟨#[]⟩ 0 ⟨#[]⟩ = true:=by
 unfold deedB
 rw [if_pos rfl,confB_iff.2 ⟨by omega,by omega,by omega,by omega⟩]
 decide
theorem deedB_term {n : Int} {t : ByteArray} (hn : 1 <= n /\ n <= 3) (ht : 1 <= t.size /\ t.size <= 4) : deedB 2 0 0 0 0 n t ⟨#[]⟩ 0 ⟨#[]⟩ = true:=by
 unfold deedB
 rw [if_neg (by decide),if_pos rfl,termB_iff.2 ⟨by omega,by omega⟩]
 decide
theorem deedB_put {n t : ByteArray} {k : Int} (hn : wordB n = true) (hk : 1 <= k /\ k <= 2) (ht : 1 <= t.size /\ t.size <= 5) : deedB 3 0 0 0 0 0 ⟨#[]⟩ n k t = true:=by
 unfold deedB
 rw [if_neg (by decide),if_neg (by decide),if_pos rfl,itemB_iff.2 ⟨hn,by omega,by omega⟩]
 decide
theorem deedB_del {n : ByteArray} (hn : wordB n = true) : deedB 4 0 0 0 0 0 ⟨#[]⟩ n 0 ⟨#[]⟩ = true:=by
 unfold deedB
 rw [if_neg (by decide),if_neg (by decide),if_neg (by decide),if_pos rfl,hn]
 simp
theorem words3 {x : ByteArray} (h : x ∈ ([⟨#[97]⟩,⟨#[98]⟩,⟨#[99]⟩] : List ByteArray)) : wordB x = true:=by
 simp only [List.mem_cons,List.not_mem_nil,or_false] at h
 rcases h with rfl | rfl | rfl <;> decide
theorem words4 {x : ByteArray} (h : x ∈ ([⟨#[97]⟩,⟨#[98]⟩,⟨#[99]⟩,⟨#[100,111,103]⟩] : List ByteArray)) : wordB x = true:=by
 simp only [List.mem_cons,List.not_mem_nil,or_false] at h
 rcases h with rfl | rfl | rfl | rfl <;> decide
theorem deedOf_c (p cb co sl sc : Nat) (sa : Option Addr) (w : World) (hS : SrcC w p cb co sl sc sa) :
 Calls Tryz.prog 29 #[.pointer (some ⟨p,0,none⟩)] w (SomeDeedR w p cb co sl sc sa):=by
 have hp:=hS.lt
 have hcb:=hS.code
 obtain ⟨W,hW⟩ : ∃ W,W = w.alloc (.cells #[.int .i64 0,.int .i64 0,.int .i64 0,.int .i64 0,.int .i64 0,.int .i64 0,.string ⟨#[]⟩,.string ⟨#[]⟩,.int .i64 0,.string ⟨#[]⟩] 34):=⟨_,rfl⟩
 obtain ⟨h,hh⟩ : ∃ h,h = w.heap.size:=⟨_,rfl⟩
 have HX0:=qH (show BoxC W h [.int .i64 0,.int .i64 0,.int .i64 0,.int .i64 0,.int .i64 0,.int .i64 0,.string ⟨#[]⟩,.string ⟨#[]⟩,.int .i64 0,.string ⟨#[]⟩] by rw [hW,hh];exact BoxC.made _ _ _)
 have HD0 : Hid (DrawnC w W p cb co sl sc sa):=qH (by rw [hW];exact (DrawnC.refl hS).below ((Below.refl _ _).alloc (Nat.le_refl _) _))
 have hne : some h ≠ some p:=by simp only [ne_eq,Option.some.injEq];omega
 have hhw : w.heap.size <= h:=by omega
 clear hS
 go_enter Tryz.func29,Tryz.ntmps29
 go_upto_region 1 with fail
 rw [<- hW,<- hh]
 clear hW hh
 go_wp2_with fail
 refine (n_c p cb co sl sc sa 6 _ HD0.out.src (by omega)).mono ?_
 rintro e w1 ⟨ra,rfl,ra0,ra1,hS1,hg,hz⟩
 have rah : ra <= 5:=by omega
 have HD1:=qH (HD0.out.trans ⟨hS1,hg⟩)
 have HX1:=qH (HX0.out.grown hg hne)
 clear ra1 hg hz hS1 HD0 HX0
 by_cases k0 : ra = 0
 · subst k0
   go_wp2_with fail
   refine (n_c p cb co sl sc sa 3 _ HD1.out.src (by omega)).mono ?_
   rintro e w2 ⟨rb,rfl,rb0,rb1,hS1,hg,hz⟩
   have rbh : rb <= 2:=by omega
   have HD2:=qH (HD1.out.trans ⟨hS1,hg⟩)
   have HX2:=qH (HX1.out.grown hg hne)
   clear rb1 hg hz hS1 HD1 HX1
   have hwb : IntKind.i64.wrap (1 + rb) = 1 + rb:=IntWalk.i64_in _ (by omega)
   go_wp2_with fail
   refine (n_c p cb co sl sc sa 1000 _ HD2.out.src (by omega)).mono ?_
   rintro e w3 ⟨rc,rfl,rc0,rc1,hS1,hg,hz⟩
   have rch : rc <= 999:=by omega
   have HD3:=qH (HD2.out.trans ⟨hS1,hg⟩)
   have HX3:=qH (HX2.out.grown hg hne)
   clear rc1 hg hz hS1 HD2 HX2
   have HQ:=qH (deedB_conf (g:=1 + rb) (c:=rc) (by omega) (by omega))
   have x0:=HX3.out.cell 0 _ rfl
   have x1:=HX3.out.cell 1 _ rfl
   have x2:=HX3.out.cell 2 _ rfl
   have x3:=HX3.out.cell 3 _ rfl
   have x4:=HX3.out.cell 4 _ rfl
   have x5:=HX3.out.cell 5 _ rfl
   have x6:=HX3.out.cell 6 _ rfl
   have x7:=HX3.out.cell 7 _ rfl
   have x8:=HX3.out.cell 8 _ rfl
   have x9:=HX3.out.cell 9 _ rfl
   have f0:=HX3.out.free 0
   have f1:=HX3.out.free 1
   have f2:=HX3.out.free 2
   have f3:=HX3.out.free 3
   have f4:=HX3.out.free 4
   have f5:=HX3.out.free 5
   have f6:=HX3.out.free 6
   have f7:=HX3.out.free 7
   have f8:=HX3.out.free 8
   have f9:=HX3.out.free 9
   have HY:=qH ((((((((((HX3.out.set (j:=0) (by simp) (.int .i64 1)).set (j:=1) (by simp) (.int .i64 (1 + rb))).set (j:=2) (by simp) (.int .i64 2)).set (j:=3) (by simp) (.int .i64 3)).set (j:=4) (by simp) (.int .i64 rc)).set (j:=5) (by simp) (.int .i64 0)).set (j:=6) (by simp) (.string ⟨#[]⟩)).set (j:=7) (by simp) (.string ⟨#[]⟩)).set (j:=8) (by simp) (.int .i64 0)).set (j:=9) (by simp) (.string ⟨#[]⟩))
   have HDF:=qH ((((((((((HD3.out.set (h:=h) (i:=0) (v:=.int .i64 1) hp hcb hhw).set (h:=h) (i:=1) (v:=.int .i64 (1 + rb)) hp hcb hhw).set (h:=h) (i:=2) (v:=.int .i64 2) hp hcb hhw).set (h:=h) (i:=3) (v:=.int .i64 3) hp hcb hhw).set (h:=h) (i:=4) (v:=.int .i64 rc) hp hcb hhw).set (h:=h) (i:=5) (v:=.int .i64 0) hp hcb hhw).set (h:=h) (i:=6) (v:=.string ⟨#[]⟩) hp hcb hhw).set (h:=h) (i:=7) (v:=.string ⟨#[]⟩) hp hcb hhw).set (h:=h) (i:=8) (v:=.int .i64 0) hp hcb hhw).set (h:=h) (i:=9) (v:=.string ⟨#[]⟩) hp hcb hhw)
   have r0:=HY.out.cell 0 _ rfl
   have r1:=HY.out.cell 1 _ rfl
   have r2:=HY.out.cell 2 _ rfl
   have r3:=HY.out.cell 3 _ rfl
   have r4:=HY.out.cell 4 _ rfl
   have r5:=HY.out.cell 5 _ rfl
   have r6:=HY.out.cell 6 _ rfl
   have r7:=HY.out.cell 7 _ rfl
   have r8:=HY.out.cell 8 _ rfl
   have r9:=HY.out.cell 9 _ rfl
   go_wp2_with fail
   exact bodyPost_ret (v:=.agg #[.int .i64 1,.int .i64 (1 + rb),.int .i64 2,.int .i64 3,.int .i64 rc,.int .i64 0,.string ⟨#[]⟩,.string ⟨#[]⟩,.int .i64 0,.string ⟨#[]⟩]) (by simp [results,Tryz.results29,go_sem,r0,r1,r2,r3,r4,r5,r6,r7,r8,r9]) rfl ⟨_,_,_,_,_,_,_,_,_,_,rfl,HQ.out,HDF.out⟩
 by_cases k1 : ra = 1
 · subst k1
   go_wp2_with fail
   refine (n_c p cb co sl sc sa 3 _ HD1.out.src (by omega)).mono ?_
   rintro e w2 ⟨rb,rfl,rb0,rb1,hS1,hg,hz⟩
   have rbh : rb <= 2:=by omega
   have HD2:=qH (HD1.out.trans ⟨hS1,hg⟩)
   have HX2:=qH (HX1.out.grown hg hne)
   clear rb1 hg hz hS1 HD1 HX1
   have hwb : IntKind.i64.wrap (1 + rb) = 1 + rb:=IntWalk.i64_in _ (by omega)
   go_wp2_with fail
   refine (n_c p cb co sl sc sa 4 _ HD2.out.src (by omega)).mono ?_
   rintro e w3 ⟨rc,rfl,rc0,rc1,hS1,hg,hz⟩
   have rch : rc <= 3:=by omega
   have HD3:=qH (HD2.out.trans ⟨hS1,hg⟩)
   have HX3:=qH (HX2.out.grown hg hne)
   clear rc1 hg hz hS1 HD2 HX2
   have hwc : IntKind.i64.wrap (1 + rc) = 1 + rc:=IntWalk.i64_in _ (by omega)
   go_wp2_with fail
   refine (bytesN_c p cb co sl sc sa (1 + rc) _ HD3.out.src (by omega) (by omega)).mono ?_
   rintro e w4 ⟨t,rfl,ht,hD⟩
   have HT : Hid (1 <= t.size /\ t.size <= 4):=qH (by omega)
   clear ht
   have HD4:=qH (HD3.out.trans hD)
   have HX4:=qH (HX3.out.grown hD.gr hne)
   clear hD HD3 HX3
   have HQ:=qH (deedB_term (n:=1 + rb) (t:=t) (by omega) HT.out)
   have x0:=HX4.out.cell 0 _ rfl
   have x1:=HX4.out.cell 1 _ rfl
   have x2:=HX4.out.cell 2 _ rfl
   have x3:=HX4.out.cell 3 _ rfl
   have x4:=HX4.out.cell 4 _ rfl
   have x5:=HX4.out.cell 5 _ rfl
   have x6:=HX4.out.cell 6 _ rfl
   have x7:=HX4.out.cell 7 _ rfl
   have x8:=HX4.out.cell 8 _ rfl
   have x9:=HX4.out.cell 9 _ rfl
   have f0:=HX4.out.free 0
   have f1:=HX4.out.free 1
   have f2:=HX4.out.free 2
   have f3:=HX4.out.free 3
   have f4:=HX4.out.free 4
   have f5:=HX4.out.free 5
   have f6:=HX4.out.free 6
   have f7:=HX4.out.free 7
   have f8:=HX4.out.free 8
   have f9:=HX4.out.free 9
   have HY:=qH ((((((((((HX4.out.set (j:=0) (by simp) (.int .i64 2)).set (j:=1) (by simp) (.int .i64 0)).set (j:=2) (by simp) (.int .i64 0)).set (j:=3) (by simp) (.int .i64 0)).set (j:=4) (by simp) (.int .i64 0)).set (j:=5) (by simp) (.int .i64 (1 + rb))).set (j:=6) (by simp) (.string t)).set (j:=7) (by simp) (.string ⟨#[]⟩)).set (j:=8) (by simp) (.int .i64 0)).set (j:=9) (by simp) (.string ⟨#[]⟩))
   have HDF:=qH ((((((((((HD4.out.set (h:=h) (i:=0) (v:=.int .i64 2) hp hcb hhw).set (h:=h) (i:=1) (v:=.int .i64 0) hp hcb hhw).set (h:=h) (i:=2) (v:=.int .i64 0) hp hcb hhw).set (h:=h) (i:=3) (v:=.int .i64 0) hp hcb hhw).set (h:=h) (i:=4) (v:=.int .i64 0) hp hcb hhw).set (h:=h) (i:=5) (v:=.int .i64 (1 + rb)) hp hcb hhw).set (h:=h) (i:=6) (v:=.string t) hp hcb hhw).set (h:=h) (i:=7) (v:=.string ⟨#[]⟩) hp hcb hhw).set (h:=h) (i:=8) (v:=.int .i64 0) hp hcb hhw).set (h:=h) (i:=9) (v:=.string ⟨#[]⟩) hp hcb hhw)
   have r0:=HY.out.cell 0 _ rfl
   have r1:=HY.out.cell 1 _ rfl
   have r2:=HY.out.cell 2 _ rfl
   have r3:=HY.out.cell 3 _ rfl
   have r4:=HY.out.cell 4 _ rfl
   have r5:=HY.out.cell 5 _ rfl
   have r6:=HY.out.cell 6 _ rfl
   have r7:=HY.out.cell 7 _ rfl
   have r8:=HY.out.cell 8 _ rfl
   have r9:=HY.out.cell 9 _ rfl
   go_wp2_with fail
   exact bodyPost_ret (v:=.agg #[.int .i64 2,.int .i64 0,.int .i64 0,.int .i64 0,.int .i64 0,.int .i64 (1 + rb),.string t,.string ⟨#[]⟩,.int .i64 0,.string ⟨#[]⟩]) (by simp [results,Tryz.results29,go_sem,r0,r1,r2,r3,r4,r5,r6,r7,r8,r9]) rfl ⟨_,_,_,_,_,_,_,_,_,_,rfl,HQ.out,HDF.out⟩
 by_cases k2 : ra = 2
 · subst k2
   go_wp2_with fail
   refine (pickL_c p cb co sl sc sa _ [⟨#[97]⟩,⟨#[98]⟩,⟨#[99]⟩] _ HD1.out.src (by decide) (by decide)).mono ?_
   rintro e w2 ⟨⟨x,hx,rfl⟩,hD⟩
   have HQ:=qH (deedB_del (words3 hx))
   clear hx
   have HD2:=qH (HD1.out.trans hD)
   have HX2:=qH (HX1.out.grown hD.gr hne)
   clear hD HD1 HX1
   have x0:=HX2.out.cell 0 _ rfl
   have x1:=HX2.out.cell 1 _ rfl
   have x2:=HX2.out.cell 2 _ rfl
   have x3:=HX2.out.cell 3 _ rfl
   have x4:=HX2.out.cell 4 _ rfl
   have x5:=HX2.out.cell 5 _ rfl
   have x6:=HX2.out.cell 6 _ rfl
   have x7:=HX2.out.cell 7 _ rfl
   have x8:=HX2.out.cell 8 _ rfl
   have x9:=HX2.out.cell 9 _ rfl
   have f0:=HX2.out.free 0
   have f1:=HX2.out.free 1
   have f2:=HX2.out.free 2
   have f3:=HX2.out.free 3
   have f4:=HX2.out.free 4
   have f5:=HX2.out.free 5
   have f6:=HX2.out.free 6
   have f7:=HX2.out.free 7
   have f8:=HX2.out.free 8
   have f9:=HX2.out.free 9
   have HY:=qH ((((((((((HX2.out.set (j:=0) (by simp) (.int .i64 4)).set (j:=1) (by simp) (.int .i64 0)).set (j:=2) (by simp) (.int .i64 0)).set (j:=3) (by simp) (.int .i64 0)).set (j:=4) (by simp) (.int .i64 0)).set (j:=5) (by simp) (.int .i64 0)).set (j:=6) (by simp) (.string ⟨#[]⟩)).set (j:=7) (by simp) (.string x)).set (j:=8) (by simp) (.int .i64 0)).set (j:=9) (by simp) (.string ⟨#[]⟩))
   have HDF:=qH ((((((((((HD2.out.set (h:=h) (i:=0) (v:=.int .i64 4) hp hcb hhw).set (h:=h) (i:=1) (v:=.int .i64 0) hp hcb hhw).set (h:=h) (i:=2) (v:=.int .i64 0) hp hcb hhw).set (h:=h) (i:=3) (v:=.int .i64 0) hp hcb hhw).set (h:=h) (i:=4) (v:=.int .i64 0) hp hcb hhw).set (h:=h) (i:=5) (v:=.int .i64 0) hp hcb hhw).set (h:=h) (i:=6) (v:=.string ⟨#[]⟩) hp hcb hhw).set (h:=h) (i:=7) (v:=.string x) hp hcb hhw).set (h:=h) (i:=8) (v:=.int .i64 0) hp hcb hhw).set (h:=h) (i:=9) (v:=.string ⟨#[]⟩) hp hcb hhw)
   have r0:=HY.out.cell 0 _ rfl
   have r1:=HY.out.cell 1 _ rfl
   have r2:=HY.out.cell 2 _ rfl
   have r3:=HY.out.cell 3 _ rfl
   have r4:=HY.out.cell 4 _ rfl
   have r5:=HY.out.cell 5 _ rfl
   have r6:=HY.out.cell 6 _ rfl
   have r7:=HY.out.cell 7 _ rfl
   have r8:=HY.out.cell 8 _ rfl
   have r9:=HY.out.cell 9 _ rfl
   go_wp2_with fail
   exact bodyPost_ret (v:=.agg #[.int .i64 4,.int .i64 0,.int .i64 0,.int .i64 0,.int .i64 0,.int .i64 0,.string ⟨#[]⟩,.string x,.int .i64 0,.string ⟨#[]⟩]) (by simp [results,Tryz.results29,go_sem,r0,r1,r2,r3,r4,r5,r6,r7,r8,r9]) rfl ⟨_,_,_,_,_,_,_,_,_,_,rfl,HQ.out,HDF.out⟩
 go_wp2_with fail
 refine (pickL_c p cb co sl sc sa _ [⟨#[97]⟩,⟨#[98]⟩,⟨#[99]⟩,⟨#[100,111,103]⟩] _ HD1.out.src (by decide) (by decide)).mono ?_
 rintro e w2 ⟨⟨x,hx,rfl⟩,hD⟩
 have HW:=qH (words4 hx)
 clear hx
 have HD2:=qH (HD1.out.trans hD)
 have HX2:=qH (HX1.out.grown hD.gr hne)
 clear hD HD1 HX1
 go_wp2_with fail
 refine (n_c p cb co sl sc sa 2 _ HD2.out.src (by omega)).mono ?_
 rintro e w3 ⟨rb,rfl,rb0,rb1,hS1,hg,hz⟩
 have rbh : rb <= 1:=by omega
 have HD3:=qH (HD2.out.trans ⟨hS1,hg⟩)
 have HX3:=qH (HX2.out.grown hg hne)
 clear rb1 hg hz hS1 HD2 HX2
 have hwb : IntKind.i64.wrap (1 + rb) = 1 + rb:=IntWalk.i64_in _ (by omega)
 go_wp2_with fail
 refine (n_c p cb co sl sc sa 5 _ HD3.out.src (by omega)).mono ?_
 rintro e w4 ⟨rc,rfl,rc0,rc1,hS1,hg,hz⟩
 have rch : rc <= 4:=by omega
 have HD4:=qH (HD3.out.trans ⟨hS1,hg⟩)
 have HX4:=qH (HX3.out.grown hg hne)
 clear rc1 hg hz hS1 HD3 HX3
 have hwc : IntKind.i64.wrap (1 + rc) = 1 + rc:=IntWalk.i64_in _ (by omega)
 go_wp2_with fail
 refine (bytesN_c p cb co sl sc sa (1 + rc) _ HD4.out.src (by omega) (by omega)).mono ?_
 rintro e w5 ⟨t,rfl,ht,hD⟩
 have HT : Hid (1 <= t.size /\ t.size <= 5):=qH (by omega)
 clear ht
 have HD5:=qH (HD4.out.trans hD)
 have HX5:=qH (HX4.out.grown hD.gr hne)
 clear hD HD4 HX4
 have HQ:=qH (deedB_put (k:=1 + rb) HW.out (by omega) HT.out)
 have x0:=HX5.out.cell 0 _ rfl
 have x1:=HX5.out.cell 1 _ rfl
 have x2:=HX5.out.cell 2 _ rfl
 have x3:=HX5.out.cell 3 _ rfl
 have x4:=HX5.out.cell 4 _ rfl
 have x5:=HX5.out.cell 5 _ rfl
 have x6:=HX5.out.cell 6 _ rfl
 have x7:=HX5.out.cell 7 _ rfl
 have x8:=HX5.out.cell 8 _ rfl
 have x9:=HX5.out.cell 9 _ rfl
 have f0:=HX5.out.free 0
 have f1:=HX5.out.free 1
 have f2:=HX5.out.free 2
 have f3:=HX5.out.free 3
 have f4:=HX5.out.free 4
 have f5:=HX5.out.free 5
 have f6:=HX5.out.free 6
 have f7:=HX5.out.free 7
 have f8:=HX5.out.free 8
 have f9:=HX5.out.free 9
 have HY:=qH ((((((((((HX5.out.set (j:=0) (by simp) (.int .i64 3)).set (j:=1) (by simp) (.int .i64 0)).set (j:=2) (by simp) (.int .i64 0)).set (j:=3) (by simp) (.int .i64 0)).set (j:=4) (by simp) (.int .i64 0)).set (j:=5) (by simp) (.int .i64 0)).set (j:=6) (by simp) (.string ⟨#[]⟩)).set (j:=7) (by simp) (.string x)).set (j:=8) (by simp) (.int .i64 (1 + rb))).set (j:=9) (by simp) (.string t))
 have HDF:=qH ((((((((((HD5.out.set (h:=h) (i:=0) (v:=.int .i64 3) hp hcb hhw).set (h:=h) (i:=1) (v:=.int .i64 0) hp hcb hhw).set (h:=h) (i:=2) (v:=.int .i64 0) hp hcb hhw).set (h:=h) (i:=3) (v:=.int .i64 0) hp hcb hhw).set (h:=h) (i:=4) (v:=.int .i64 0) hp hcb hhw).set (h:=h) (i:=5) (v:=.int .i64 0) hp hcb hhw).set (h:=h) (i:=6) (v:=.string ⟨#[]⟩) hp hcb hhw).set (h:=h) (i:=7) (v:=.string x) hp hcb hhw).set (h:=h) (i:=8) (v:=.int .i64 (1 + rb)) hp hcb hhw).set (h:=h) (i:=9) (v:=.string t) hp hcb hhw)
 have r0:=HY.out.cell 0 _ rfl
 have r1:=HY.out.cell 1 _ rfl
 have r2:=HY.out.cell 2 _ rfl
 have r3:=HY.out.cell 3 _ rfl
 have r4:=HY.out.cell 4 _ rfl
 have r5:=HY.out.cell 5 _ rfl
 have r6:=HY.out.cell 6 _ rfl
 have r7:=HY.out.cell 7 _ rfl
 have r8:=HY.out.cell 8 _ rfl
 have r9:=HY.out.cell 9 _ rfl
 go_wp2_with fail
 exact bodyPost_ret (v:=.agg #[.int .i64 3,.int .i64 0,.int .i64 0,.int .i64 0,.int .i64 0,.int .i64 0,.string ⟨#[]⟩,.string x,.int .i64 (1 + rb),.string t]) (by simp [results,Tryz.results29,go_sem,r0,r1,r2,r3,r4,r5,r6,r7,r8,r9]) rfl ⟨_,_,_,_,_,_,_,_,_,_,rfl,HQ.out,HDF.out⟩
theorem DrawnC.row {w u u' : World} {p cb co sl sc : Nat} {sa : Option Addr} {row : Option Nat} (hD : DrawnC w u p cb co sl sc sa) (hp : p < w.heap.size) (hcb : 0 < sl -> cb < w.heap.size) (hg : u.grownBy u' row) (hr : ∀ k,row = some k -> w.heap.size <= k) : DrawnC w u' p cb co sl sc sa :=
 ⟨hD.src.grown hp hcb hg hr,grown_own hD.gr hg hr⟩
def SomeDeedS (w : World) (p cb co sl sc : Nat) (sa : Option Addr) (e : Ending) (w' : World) : Prop :=
 ∃ (q0 q1 q2 q3 q4 q5 : Int) (q6 q7 : ByteArray) (q8 : Int) (q9 : ByteArray),e = .returned (.agg #[.int .i64 q0,.int .i64 q1,.int .i64 q2,.int .i64 q3,.int .i64 q4,.int .i64 q5,.string q6,.string q7,.int .i64 q8,.string q9]) /\ (q6.size <= 20 /\ q7.size <= 20 /\ q9.size <= 20) /\ DrawnC w w' p cb co sl sc sa
theorem deedB_small {q0 q1 q2 q3 q4 q5 : Int} {q6 q7 : ByteArray} {q8 : Int} {q9 : ByteArray} (h : deedB q0 q1 q2 q3 q4 q5 q6 q7 q8 q9 = true) : q6.size <= 20 /\ q7.size <= 20 /\ q9.size <= 20:=by
 have hb:=deedB_bounds h
 unfold deedB at h
 rcases hb with ⟨rfl,_⟩ | ⟨rfl,_,h2⟩ | ⟨rfl,h1,_,h3⟩ | ⟨rfl,h1⟩
 · simp only [if_pos,Bool.and_eq_true,decide_eq_true_eq] at h
   obtain ⟨⟨_,rfl,rfl⟩,rfl,rfl,rfl⟩:=h
   decide
 · rw [if_neg (by decide),if_pos rfl] at h
   simp only [Bool.and_eq_true,decide_eq_true_eq] at h
   obtain ⟨⟨_,_⟩,rfl,rfl,rfl⟩:=h
   exact ⟨by omega,by decide,by decide⟩
 · rw [if_neg (by decide),if_neg (by decide),if_pos rfl] at h
   simp only [Bool.and_eq_true,decide_eq_true_eq] at h
   obtain ⟨⟨_,rfl,rfl⟩,_⟩:=h
   exact ⟨by decide,by omega,by omega⟩
 · rw [if_neg (by decide),if_neg (by decide),if_neg (by decide),if_pos rfl] at h
   simp only [Bool.and_eq_true,decide_eq_true_eq] at h
   obtain ⟨⟨⟨_,rfl,rfl⟩,_,rfl,rfl⟩,_⟩:=h
   exact ⟨by decide,by omega,by decide⟩
theorem names3 {x : ByteArray} (h : x ∈ ([⟨#[]⟩,⟨#[65]⟩,⟨#[97]⟩] : List ByteArray)) : x.size <= 20:=by
 simp only [List.mem_cons,List.not_mem_nil,or_false] at h
 rcases h with rfl | rfl | rfl <;> decide
theorem deed_c (p cb co sl sc : Nat) (sa : Option Addr) (w : World) (hS : SrcC w p cb co sl sc sa) :
 Calls Tryz.prog 26 #[.pointer (some ⟨p,0,none⟩)] w (SomeDeedS w p cb co sl sc sa):=by
 have hp:=hS.lt
 have hcb:=hS.code
 obtain ⟨W,hW⟩ : ∃ W,W = w.alloc (.cells #[.int .i64 0,.int .i64 0,.int .i64 0,.int .i64 0,.int .i64 0,.int .i64 0,.string ⟨#[]⟩,.string ⟨#[]⟩,.int .i64 0,.string ⟨#[]⟩] 34):=⟨_,rfl⟩
 obtain ⟨h,hh⟩ : ∃ h,h = w.heap.size:=⟨_,rfl⟩
 have HX0:=qH (show BoxC W h [.int .i64 0,.int .i64 0,.int .i64 0,.int .i64 0,.int .i64 0,.int .i64 0,.string ⟨#[]⟩,.string ⟨#[]⟩,.int .i64 0,.string ⟨#[]⟩] by rw [hW,hh];exact BoxC.made _ _ _)
 have HD0 : Hid (DrawnC w W p cb co sl sc sa):=qH (by rw [hW];exact (DrawnC.refl hS).below ((Below.refl _ _).alloc (Nat.le_refl _) _))
 have hne : some h ≠ some p:=by simp only [ne_eq,Option.some.injEq];omega
 have hhw : w.heap.size <= h:=by omega
 clear hS
 go_enter Tryz.func26,Tryz.ntmps26
 go_upto_region 1 with fail
 rw [<- hW,<- hh]
 clear hW hh
 go_wp2_with fail
 refine (deedOf_c p cb co sl sc sa _ HD0.out.src).mono ?_
 rintro e w1 ⟨q0,q1,q2,q3,q4,q5,q6,q7,q8,q9,rfl,hq,hD⟩
 have HQ:=qH (deedB_small hq)
 obtain ⟨W1,hW1⟩ : ∃ W1,W1 = w1.alloc (.cells #[.int .i64 q0,.int .i64 q1,.int .i64 q2,.int .i64 q3,.int .i64 q4,.int .i64 q5,.string q6,.string q7,.int .i64 q8,.string q9] 34):=⟨_,rfl⟩
 obtain ⟨h2,hh2⟩ : ∃ h2,h2 = w1.heap.size:=⟨_,rfl⟩
 have HE1:=qH (show BoxC W1 h2 [.int .i64 q0,.int .i64 q1,.int .i64 q2,.int .i64 q3,.int .i64 q4,.int .i64 q5,.string q6,.string q7,.int .i64 q8,.string q9] by rw [hW1,hh2];exact BoxC.made _ _ _)
 have HX1:=qH (show BoxC W1 h [.int .i64 0,.int .i64 0,.int .i64 0,.int .i64 0,.int .i64 0,.int .i64 0,.string ⟨#[]⟩,.string ⟨#[]⟩,.int .i64 0,.string ⟨#[]⟩] by rw [hW1];exact (HX0.out.grown hD.gr hne).alloc _)
 have HD1:=qH (show DrawnC w W1 p cb co sl sc sa by rw [hW1];exact (HD0.out.trans hD).below ((Below.refl _ _).alloc (Nat.le_refl _) _))
 have hh2w : w.heap.size <= h2:=by have:=(HD0.out.trans hD).gr.size;omega
 have hne2 : some h2 ≠ some p:=by simp only [ne_eq,Option.some.injEq];omega
 have hne3 : h2 ≠ h:=by have:=(HX0.out.grown hD.gr hne).lt;omega
 clear hq hD HX0 HD0
 go_upto_region 2 with fail
 rw [<- hW1,<- hh2]
 clear hW1 hh2
 go_wp2_with fail
 refine (n_c p cb co sl sc sa 10 _ HD1.out.src (by omega)).mono ?_
 rintro e w2 ⟨ra,rfl,ra0,ra1,hS1,hg,hz⟩
 have rah : ra <= 9:=by omega
 have HD2:=qH (HD1.out.trans ⟨hS1,hg⟩)
 have HX2:=qH (HX1.out.grown hg hne)
 have HE2:=qH (HE1.out.grown hg hne2)
 clear ra1 hg hz hS1 HD1 HX1 HE1
 by_cases k0 : ra = 0
 · subst k0
   go_wp2_with fail
   refine (n_c p cb co sl sc sa 6 _ HD2.out.src (by omega)).mono ?_
   rintro e w3 ⟨rb,rfl,rb0,rb1,hS1,hg,hz⟩
   have rbh : rb <= 5:=by omega
   have HD3:=qH (HD2.out.trans ⟨hS1,hg⟩)
   have HX3:=qH (HX2.out.grown hg hne)
   have HE3:=qH (HE2.out.grown hg hne2)
   clear rb1 hg hz hS1 HD2 HX2 HE2
   have g0:=HE3.out.free 0
   have y0:=HE3.out.cell 0 _ rfl
   have HE3b:=qH (HE3.out.set (j:=0) (by simp) (.int .i64 rb))
   have HX3b:=qH (HX3.out.other ⟨h2,0,none⟩ (.int .i64 rb) (by dsimp only;omega))
   have HD3b:=qH (HD3.out.set (h:=h2) (i:=0) (v:=.int .i64 rb) hp hcb hh2w)
   go_upto_region 9 with fail
   generalize w3.setCell ⟨h2,0,none⟩ (.int .i64 rb) = Y at *
   clear g0 y0
   obtain ⟨vl,hvl⟩ : ∃ vl : List Value,vl = [.int .i64 rb,.int .i64 q1,.int .i64 q2,.int .i64 q3,.int .i64 q4,.int .i64 q5,.string q6,.string q7,.int .i64 q8,.string q9]:=⟨_,rfl⟩
   have HVE:=qH hvl
   have HVL:=qH (show vl.length = 10 by rw [hvl];rfl)
   have HVO:=qH (show vl.all (·.oneCell') = true by rw [hvl];rfl)
   have HEV:=qH (show BoxC _ h2 vl by rw [hvl];exact HE3b.out)
   have HY:=qH (box_setCells HX3b.out vl HVL.out)
   have HDF:=qH (HD3b.out.row hp hcb (setCells_grown h vl 0 _) (fun k hk => by cases hk;exact hhw))
   clear hvl
   go_wp2_with (first | (refine list_load HEV.out 34 _ 10 rfl rfl rfl HVL.out (by kernel_rfl) ?_;simp only [pS,List.set]) | (refine list_store (vs:=vl) HX3b.out 34 _ _ 10 rfl rfl rfl rfl rfl HVL.out HVO.out (by kernel_rfl) ?_;simp only [pN]))
   exact bodyPost_ret (v:=.agg vl.toArray) (results_box HY.out Tryz.results26 rfl HVL.out (by kernel_rfl)) rfl ⟨_,_,_,_,_,_,_,_,_,_,by rw [HVE.out],HQ.out,HDF.out⟩
 by_cases k1 : ra = 1
 · subst k1
   go_wp2_with fail
   refine (pickL_c p cb co sl sc sa _ [⟨#[]⟩,⟨#[65]⟩,⟨#[97]⟩] _ HD2.out.src (by decide) (by decide)).mono ?_
   rintro e w3 ⟨⟨x,hx,rfl⟩,hD⟩
   have HN:=qH (names3 hx)
   have HD3:=qH (HD2.out.trans hD)
   have HX3:=qH (HX2.out.grown hD.gr hne)
   have HE3:=qH (HE2.out.grown hD.gr hne2)
   clear hx hD HD2 HX2 HE2
   have g7:=HE3.out.free 7
   have y7:=HE3.out.cell 7 _ rfl
   have HE3b:=qH (HE3.out.set (j:=7) (by simp) (.string x))
   have HX3b:=qH (HX3.out.other ⟨h2,7,none⟩ (.string x) (by dsimp only;omega))
   have HD3b:=qH (HD3.out.set (h:=h2) (i:=7) (v:=.string x) hp hcb hh2w)
   go_upto_region 9 with fail
   generalize w3.setCell ⟨h2,7,none⟩ (.string x) = Y at *
   clear g7 y7
   obtain ⟨vl,hvl⟩ : ∃ vl : List Value,vl = [.int .i64 q0,.int .i64 q1,.int .i64 q2,.int .i64 q3,.int .i64 q4,.int .i64 q5,.string q6,.string x,.int .i64 q8,.string q9]:=⟨_,rfl⟩
   have HVE:=qH hvl
   have HVL:=qH (show vl.length = 10 by rw [hvl];rfl)
   have HVO:=qH (show vl.all (·.oneCell') = true by rw [hvl];rfl)
   have HEV:=qH (show BoxC _ h2 vl by rw [hvl];exact HE3b.out)
   have HY:=qH (box_setCells HX3b.out vl HVL.out)
   have HDF:=qH (HD3b.out.row hp hcb (setCells_grown h vl 0 _) (fun k hk => by cases hk;exact hhw))
   clear hvl
   go_wp2_with (first | (refine list_load HEV.out 34 _ 10 rfl rfl rfl HVL.out (by kernel_rfl) ?_;simp only [pS,List.set]) | (refine list_store (vs:=vl) HX3b.out 34 _ _ 10 rfl rfl rfl rfl rfl HVL.out HVO.out (by kernel_rfl) ?_;simp only [pN]))
   exact bodyPost_ret (v:=.agg vl.toArray) (results_box HY.out Tryz.results26 rfl HVL.out (by kernel_rfl)) rfl ⟨_,_,_,_,_,_,_,_,_,_,by rw [HVE.out],⟨HQ.out.1,HN.out,HQ.out.2.2⟩,HDF.out⟩
 by_cases k2 : ra = 2
 · subst k2
   obtain ⟨W3,hW3⟩ : ∃ W3,W3 = w2.alloc (.cells #[.int .i64 0,.int .i64 1,.int .i64 1000] 2):=⟨_,rfl⟩
   obtain ⟨h3,hh3⟩ : ∃ h3,h3 = w2.heap.size:=⟨_,rfl⟩
   have HL3:=qH (show BoxC W3 h3 [.int .i64 0,.int .i64 1,.int .i64 1000] by rw [hW3,hh3];exact BoxC.made _ _ _)
   have HX3:=qH (show BoxC W3 h [.int .i64 0,.int .i64 0,.int .i64 0,.int .i64 0,.int .i64 0,.int .i64 0,.string ⟨#[]⟩,.string ⟨#[]⟩,.int .i64 0,.string ⟨#[]⟩] by rw [hW3];exact HX2.out.alloc _)
   have HE3:=qH (show BoxC W3 h2 [.int .i64 q0,.int .i64 q1,.int .i64 q2,.int .i64 q3,.int .i64 q4,.int .i64 q5,.string q6,.string q7,.int .i64 q8,.string q9] by rw [hW3];exact HE2.out.alloc _)
   have HD3:=qH (show DrawnC w W3 p cb co sl sc sa by rw [hW3];exact HD2.out.below ((Below.refl _ _).alloc (Nat.le_refl _) _))
   have hne4 : some h3 ≠ some p:=by have:=HD2.out.gr.size;simp only [ne_eq,Option.some.injEq];omega
   clear HX2 HE2 HD2
   go_wp2_with fail
   rw [<- hW3,<- hh3]
   clear hW3 hh3
   refine (n_c p cb co sl sc sa 3 _ HD3.out.src (by omega)).mono ?_
   rintro e w4 ⟨rb,rfl,rb0,rb1,hS1,hg,hz⟩
   have rbh : rb <= 2:=by omega
   have HD4:=qH (HD3.out.trans ⟨hS1,hg⟩)
   have HX4:=qH (HX3.out.grown hg hne)
   have HE4:=qH (HE3.out.grown hg hne2)
   have HL4:=qH (HL3.out.grown hg hne4)
   clear rb1 hg hz hS1 HD3 HX3 HE3 HL3
   obtain ⟨j,rfl⟩ : ∃ j : Nat,rb = j:=⟨rb.toNat,by omega⟩
   obtain ⟨cz,hcz⟩ : ∃ cz : Int,w4.cell? ⟨h3,j,none⟩ = some (.int .i64 cz):=by
    have hj : j = 0 ∨ j = 1 ∨ j = 2:=by omega
    rcases hj with rfl | rfl | rfl
    · exact ⟨_,HL4.out.cell 0 _ rfl⟩
    · exact ⟨_,HL4.out.cell 1 _ rfl⟩
    · exact ⟨_,HL4.out.cell 2 _ rfl⟩
   have hin : 0 <= (j : Int) /\ (j : Int) < 3:=by omega
   have g1:=HE4.out.free 1
   have y1:=HE4.out.cell 1 _ rfl
   have HE4b:=qH (HE4.out.set (j:=1) (by simp) (.int .i64 cz))
   have HX4b:=qH (HX4.out.other ⟨h2,1,none⟩ (.int .i64 cz) (by dsimp only;omega))
   have HD4b:=qH (HD4.out.set (h:=h2) (i:=1) (v:=.int .i64 cz) hp hcb hh2w)
   go_upto_region 9 with fail
   generalize w4.setCell ⟨h2,1,none⟩ (.int .i64 cz) = Y at *
   clear g1 y1
   obtain ⟨vl,hvl⟩ : ∃ vl : List Value,vl = [.int .i64 q0,.int .i64 cz,.int .i64 q2,.int .i64 q3,.int .i64 q4,.int .i64 q5,.string q6,.string q7,.int .i64 q8,.string q9]:=⟨_,rfl⟩
   have HVE:=qH hvl
   have HVL:=qH (show vl.length = 10 by rw [hvl];rfl)
   have HVO:=qH (show vl.all (·.oneCell') = true by rw [hvl];rfl)
   have HEV:=qH (show BoxC _ h2 vl by rw [hvl];exact HE4b.out)
   have HY:=qH (box_setCells HX4b.out vl HVL.out)
   have HDF:=qH (HD4b.out.row hp hcb (setCells_grown h vl 0 _) (fun k hk => by cases hk;exact hhw))
   clear hvl
   go_wp2_with (first | (refine list_load HEV.out 34 _ 10 rfl rfl rfl HVL.out (by kernel_rfl) ?_;simp only [pS,List.set]) | (refine list_store (vs:=vl) HX4b.out 34 _ _ 10 rfl rfl rfl rfl rfl HVL.out HVO.out (by kernel_rfl) ?_;simp only [pN]))
   exact bodyPost_ret (v:=.agg vl.toArray) (results_box HY.out Tryz.results26 rfl HVL.out (by kernel_rfl)) rfl ⟨_,_,_,_,_,_,_,_,_,_,by rw [HVE.out],HQ.out,HDF.out⟩
 obtain ⟨vl,hvl⟩ : ∃ vl : List Value,vl = [.int .i64 q0,.int .i64 q1,.int .i64 q2,.int .i64 q3,.int .i64 q4,.int .i64 q5,.string q6,.string q7,.int .i64 q8,.string q9]:=⟨_,rfl⟩
 have HVE:=qH hvl
 have HVL:=qH (show vl.length = 10 by rw [hvl];rfl)
 have HVO:=qH (show vl.all (·.oneCell') = true by rw [hvl];rfl)
 have HEV:=qH (show BoxC _ h2 vl by rw [hvl];exact HE2.out)
 have HY:=qH (box_setCells HX2.out vl HVL.out)
 have HDF:=qH (HD2.out.row hp hcb (setCells_grown h vl 0 _) (fun k hk => by cases hk;exact hhw))
 clear hvl
 go_wp2_with (first | (refine list_load HEV.out 34 _ 10 rfl rfl rfl HVL.out (by kernel_rfl) ?_;simp only [pS,List.set]) | (refine list_store (vs:=vl) HX2.out 34 _ _ 10 rfl rfl rfl rfl rfl HVL.out HVO.out (by kernel_rfl) ?_;simp only [pN]))
 exact bodyPost_ret (v:=.agg vl.toArray) (results_box HY.out Tryz.results26 rfl HVL.out (by kernel_rfl)) rfl ⟨_,_,_,_,_,_,_,_,_,_,by rw [HVE.out],HQ.out,HDF.out⟩
end Go.Proofs.YtbgoldeopmlbnaaGreatDoor
namespace Go.Proofs.YtbgoldeopmlbnaaGreatDoor
open Go.RowKit Go.PlainAid G MGet MGF IRow MNum MJoin
set_option linter.unusedVariables false
abbrev Plc:=Nat × Bool
def rcConf (u : ByteArray) (k : Int) (q : Plc) : Dd × Plc :=
 (⟨k,(sN u q).1,(sN u (sN u q).2).1,(sN u (sN u (sN u q).2).2).1,(sN u (sN u (sN u (sN u q).2).2).2).1,0,⟨#[]⟩,⟨#[]⟩,0,⟨#[]⟩⟩,(sN u (sN u (sN u (sN u q).2).2).2).2)
def rcTerm (u : ByteArray) (k : Int) (q : Plc) : Dd × Plc :=
 (⟨k,0,0,0,0,(sN u q).1,(sT u (sN u q).2).1,⟨#[]⟩,0,⟨#[]⟩⟩,(sT u (sN u q).2).2)
def rcPut (u : ByteArray) (k : Int) (q : Plc) : Dd × Plc :=
 (⟨k,0,0,0,0,0,⟨#[]⟩,(sT u q).1,(sN u (sT u q).2).1,(sT u (sN u (sT u q).2).2).1⟩,(sT u (sN u (sT u q).2).2).2)
def rcDel (u : ByteArray) (k : Int) (q : Plc) : Dd × Plc:=(⟨k,0,0,0,0,0,⟨#[]⟩,(sT u q).1,0,⟨#[]⟩⟩,(sT u q).2)
def rcNone (k : Int) (q : Plc) : Dd × Plc:=(⟨k,0,0,0,0,0,⟨#[]⟩,⟨#[]⟩,0,⟨#[]⟩⟩,q)
def rcRest (u : ByteArray) (k : Int) (q : Plc) : Dd × Plc :=
 if k = 1 then rcConf u k q else if k = 2 then rcTerm u k q else if k = 3 then rcPut u k q else if k = 4 then rcDel u k q else rcNone k q
def rdDeed (u : ByteArray) (q : Plc) : Dd × Plc:=rcRest u (sN u q).1 (sN u q).2
def okDeed (u : ByteArray) (q : Plc) : Bool:=!(rdDeed u q).2.2 && deedOf (rdDeed u q).1
def plAt (u : ByteArray) (q : Plc) : Nat -> Plc
 | 0 => q
 | n + 1 => (rdDeed u (plAt u q n)).2
def ddAt (u : ByteArray) (q : Plc) (i : Nat) : Dd:=(rdDeed u (plAt u q i)).1
def ddsTo (u : ByteArray) (q : Plc) (n : Nat) : List Dd:=(List.range n).map (ddAt u q)
def okTo (u : ByteArray) (q : Plc) (n : Nat) : Bool:=(List.range n).all (fun i => okDeed u (plAt u q i))
def rdTx (u : ByteArray) : List Dd :=
 if 1 <= (sN u (0,false)).1 /\ (sN u (0,false)).1 <= 10 /\ okTo u (sN u (0,false)).2 (sN u (0,false)).1.toNat = true /\ (plAt u (sN u (0,false)).2 (sN u (0,false)).1.toNat).1 = u.size
 then ddsTo u (sN u (0,false)).2 (sN u (0,false)).1.toNat else []
theorem okTo_succ (u : ByteArray) (q : Plc) (n : Nat) : okTo u q (n + 1) = (okTo u q n && okDeed u (plAt u q n)):=by
 unfold okTo
 rw [List.range_succ,List.all_append]
 simp
theorem ddsTo_succ (u : ByteArray) (q : Plc) (n : Nat) : ddsTo u q (n + 1) = ddsTo u q n ++ [ddAt u q n]:=by
 unfold ddsTo
 rw [List.range_succ,List.map_append]
 rfl
theorem ddsTo_length (u : ByteArray) (q : Plc) (n : Nat) : (ddsTo u q n).length = n:=by simp [ddsTo]
theorem okTo_of {u : ByteArray} {q : Plc} {n i : Nat} (h : okTo u q n = true) (hi : i < n) : okDeed u (plAt u q i) = true:=by
 unfold okTo at h
 rw [List.all_eq_true] at h
 exact h i (List.mem_range.2 hi)
theorem okTo_no {u : ByteArray} {q : Plc} {n i : Nat} (h : okDeed u (plAt u q i) = false) (hi : i < n) : okTo u q n = false:=by
 unfold okTo
 rw [List.all_eq_false]
 exact ⟨i,List.mem_range.2 hi,by rw [h];decide⟩
theorem okDeed_iff {u : ByteArray} {q : Plc} : okDeed u q = true ↔ (rdDeed u q).2.2 = false /\ deedOf (rdDeed u q).1 = true:=by
 unfold okDeed
 cases (rdDeed u q).2.2 <;> simp
theorem rdTx_no {u : ByteArray} (h : ¬ (1 <= (sN u (0,false)).1 /\ (sN u (0,false)).1 <= 10 /\ okTo u (sN u (0,false)).2 (sN u (0,false)).1.toNat = true /\ (plAt u (sN u (0,false)).2 (sN u (0,false)).1.toNat).1 = u.size)) : rdTx u = []:=if_neg h
theorem rdTx_yes {u : ByteArray} (h : 1 <= (sN u (0,false)).1 /\ (sN u (0,false)).1 <= 10 /\ okTo u (sN u (0,false)).2 (sN u (0,false)).1.toNat = true /\ (plAt u (sN u (0,false)).2 (sN u (0,false)).1.toNat).1 = u.size) : rdTx u = ddsTo u (sN u (0,false)).2 (sN u (0,false)).1.toNat:=if_pos h
def rdPart (t : ByteArray) : List Dd:=if (openS t).2.2 = 0 then rdTx (openS t).1 else []
end Go.Proofs.YtbgoldeopmlbnaaGreatDoor
