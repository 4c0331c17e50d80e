/- Used by the law. -/
import Derived.Test.YthkbcjnbmciolaaGreatDoorQV34
set_option maxRecDepth 100000
set_option maxHeartbeats 16000000
namespace Go.Proofs.YthkbcjnbmciolaaGreatDoor
open Go.RowKit Go.PlainAid G MGF IRow MNum MJoin
set_option linter.unusedVariables false
theorem sizeOfEnv (w : World) : (Go.sizeOf 101).run Tryz.prog w = .ok 5 w:=by kernel_rfl
theorem cut_to_envs (W : World) (a2 : Option Addr) (n cap k : Nat) (hk : k <= cap) : (Instr.slice 44 (.slice a2 n cap) none (some (.int .i64 (k : Int))) none).run Tryz.prog W = .ok (.slice a2 k cap) W:=by
 have ht:=Tryz.underlying44
 have ht' : Tryz.prog.underlying 44 = some (.slice (Tryz.prog.elem 44)):=by simp [Program.elem,ht]
 have he : Tryz.prog.elem 44 = 101:=by simp [Program.elem,ht]
 rw [run_slice_h W 44 _ _ _ ht' .i64 _ (by omega) (by omega),he,sizeOfEnv]
 cases a2 with
 | none => simp [Result.andThen,sliced]
 | some ad => obtain ⟨g,o,r⟩:=ad;simp [Result.andThen,sliced,Addr.add]
theorem l09Fit_any (c0 c1 c2 c3 : Int) (a : Option Addr) (n cap : Nat) (l : List Ev) (w : World) (h : ER w a n cap l) (hn : n <= 1048576) (ht : ∀ t,t < n -> (l.getD t evD).t.size <= maxLen) :
 Calls Tryz.prog 43 #[.agg #[.int .i64 c0,.int .i64 c1,.int .i64 c2,.int .i64 c3],.slice a n cap] w fun e w' => e = .returned (.bool (fitB c0 c1 c2 l)) /\ Below w.heap.size w w':=by
 have HL:=qH h.len
 have HE:=qH h
 have HT:=qH ht
 have HCP:=qH h.le
 clear h ht
 have hmx : Tryz.prog.follows .mixedOrders = true:=by kernel_rfl
 obtain ⟨W,hW⟩ : ∃ W,W = w.alloc (.cells #[.int .i64 c0,.int .i64 c1,.int .i64 c2,.int .i64 c3] 39):=⟨_,rfl⟩
 have HB0:=qH (show Below w.heap.size w W by rw [hW];exact (Below.refl _ _).alloc (Nat.le_refl _) _)
 have HX0:=qH (show BoxC W w.heap.size [.int .i64 c0,.int .i64 c1,.int .i64 c2,.int .i64 c3] by rw [hW];exact BoxC.made _ _ _)
 have HNO : Hid (∀ j,j < n -> okF c0 c1 c2 l j = false -> fitB c0 c1 c2 l = false):=qH (fun j hj hb => fit_no (by rw [HL.out];exact hj) hb)
 have HYES : Hid ((∀ j,j < n -> okF c0 c1 c2 l j = true) -> fitB c0 c1 c2 l = (decide (n = 0) || decide ((n : Int) < c1))):=qH (fun hh => by have:=fit_yes (c0:=c0) (c1:=c1) (c2:=c2) (l:=l) (by rw [HL.out];exact hh);rwa [HL.out] at this)
 go_enter Tryz.func43,Tryz.ntmps43
 go_upto_region 1 with fail
 rw [<- hW]
 clear hW
 go_wp2_with fail
 go_loopw [5] (fun i wr => ∃ j : Nat,j <= n /\ i = .int .i64 j /\ Hid (∀ t,t < j -> okF c0 c1 c2 l t = true) /\ Hid (Below w.heap.size w wr) /\ Hid (BoxC wr w.heap.size [.int .i64 c0,.int .i64 c1,.int .i64 c2,.int .i64 c3])) (fun i _ => n - (intOf i).toNat)
 case atStart => exact ⟨0,Nat.zero_le _,rfl,qH (fun t ht => absurd ht (Nat.not_lt_zero _)),HB0,HX0⟩
 case round =>
  obtain ⟨j,hj,rfl,HA,HB,HX⟩:=hrel
  clear HB0 HX0
  by_cases hlt : j < n
  · obtain ⟨g,o,hao,hg,b0,b1,b2,b3,b4⟩:=ER.at (SR.below HE.out HB.out) hlt
    obtain ⟨g',o',hao',_,_,_,_,_,e4⟩:=ER.at (SR.below HE.out HB.out) (show 0 < n by omega)
    subst hao
    simp only [Option.some.injEq,Addr.mk.injEq,and_true] at hao'
    obtain ⟨rfl,rfl⟩:=hao'
    rw [Nat.zero_mul,Nat.add_zero] at e4
    have hin : 0 <= (j : Int) /\ (j : Int) < (n : Int):=by omega
    have hin0 : 0 < (n : Int):=by omega
    have hin1 : ¬ n = 0:=by omega
    have HTJ:=qH (HT.out j hlt)
    have HT0:=qH (HT.out 0 (by omega))
    have HNJ:=qH (HNO.out j hlt)
    have HSU : Hid (okF c0 c1 c2 l j = true -> ∀ t,t < j + 1 -> okF c0 c1 c2 l t = true):=qH (fun hb t ht => by
     by_cases e : t = j
     · rw [e];exact hb
     · exact HA.out t (by omega))
    obtain ⟨ev,hev⟩ : ∃ ev,l.getD j evD = ev:=⟨_,rfl⟩
    obtain ⟨e0,he0⟩ : ∃ e0,(l.getD 0 evD).t = e0:=⟨_,rfl⟩
    obtain ⟨r,hr⟩ : ∃ r,atE (l.take j) (l.getD j evD).x 0 = r:=⟨_,rfl⟩
    have HOK : Hid (okF c0 c1 c2 l j = (okE c0 c1 c2 ev && (decide (ev.t.size = e0.size) && !decide (0 <= r)))):=qH (by unfold okF;rw [hr,he0,hev])
    rw [hev] at b0 b1 b2 b3 b4 HTJ hr
    rw [he0] at e4 HT0
    obtain ⟨eg,en,em,ex,et⟩:=ev
    dsimp only at b0 b1 b2 b3 b4 HTJ hr HOK
    have HRR:=qH hr
    have hcut:=fun W => cut_to_envs W (some ⟨g,o,none⟩) n cap j (by have:=HCP.out;omega)
    clear hev he0 hr HA
    obtain ⟨V,hV⟩ : ∃ V,V = wr.alloc (.cells #[.int .i64 eg,.int .i64 en,.int .i64 em,.int .i64 ex,.string et] 101):=⟨_,rfl⟩
    have hBV : Below wr.heap.size wr V:=by rw [hV];exact (Below.refl _ _).alloc (Nat.le_refl _) _
    have HVX:=qH (show BoxC V wr.heap.size [.int .i64 eg,.int .i64 en,.int .i64 em,.int .i64 ex,.string et] by rw [hV];exact BoxC.made _ _ _)
    have HXV:=qH (HX.out.below hBV)
    have HBV:=qH (HB.out.trans (hBV.mono HB.out.size))
    have HE4:=qH (show V.cell? ⟨g,o + 4,none⟩ = some (.string e0) from (hBV.cell (p:=⟨g,o + 4,none⟩) hg).trans e4)
    have HGL:=qH (Nat.lt_of_lt_of_le hg hBV.size)
    obtain ⟨hq,hhq⟩ : ∃ hq,hq = wr.heap.size:=⟨_,rfl⟩
    rw [<- hhq] at HVX
    clear hBV HB HX e4
    go_upto_region 5 with fail
    rw [<- hV,<- hhq]
    clear hV b0 b1 b2 b3 b4 hhq
    obtain ⟨S,hS⟩ : ∃ S : World -> Prop,S = fun u => Below w.heap.size w u /\ BoxC u w.heap.size [.int .i64 c0,.int .i64 c1,.int .i64 c2,.int .i64 c3] /\ BoxC u hq [.int .i64 eg,.int .i64 en,.int .i64 em,.int .i64 ex,.string et] /\ u.cell? ⟨g,o + 4,none⟩ = some (.string e0) /\ g < u.heap.size:=⟨_,rfl⟩
    have HSX : Hid (∀ u,S u -> Below w.heap.size w u /\ BoxC u w.heap.size [.int .i64 c0,.int .i64 c1,.int .i64 c2,.int .i64 c3] /\ BoxC u hq [.int .i64 eg,.int .i64 en,.int .i64 em,.int .i64 ex,.string et] /\ u.cell? ⟨g,o + 4,none⟩ = some (.string e0) /\ g < u.heap.size):=qH (fun u hu => by rw [hS] at hu;exact hu)
    have HKP : Hid (∀ u u2,S u -> Below u.heap.size u u2 -> S u2):=qH (fun u u2 hu hb => by
     rw [hS] at hu ⊢
     obtain ⟨k1,k2,k3,k4,k5⟩:=hu
     exact ⟨k1.trans (hb.mono k1.size),k2.below hb,k3.below hb,(hb.cell (p:=⟨g,o + 4,none⟩) k5).trans k4,Nat.lt_of_lt_of_le k5 hb.size⟩)
    have HS0 : Hid (S V.drew):=qH (HKP.out V _ (by rw [hS];exact ⟨HBV.out,HXV.out,HVX.out,HE4.out,HGL.out⟩) (Below.refl _ _).drew)
    have HDN : Hid (∀ u,S u -> Below w.heap.size w u /\ BoxC u w.heap.size [.int .i64 c0,.int .i64 c1,.int .i64 c2,.int .i64 c3]):=qH (fun u hu => ⟨(HSX.out u hu).1,(HSX.out u hu).2.1⟩)
    have hwj : IntKind.i64.wrap ((j : Int) + 1) = (j : Int) + 1:=IntWalk.i64_in _ (by omega)
    clear hS HBV HXV HVX HE4 HGL
    refine HeldZ.region hmx S (by kernel_rfl) HS0.out ?_
    with_reducible refine HeldZ.value (v:=.agg #[.int .i64 eg,.int .i64 en,.int .i64 em,.int .i64 ex,.string et]) rfl (fun u hu => by obtain ⟨_,hx,hy,he,_⟩:=HSX.out u hu;have y0:=hy.cell 0 _ rfl;have y1:=hy.cell 1 _ rfl;have y2:=hy.cell 2 _ rfl;have y3:=hy.cell 3 _ rfl;have y4:=hy.cell 4 _ rfl;go_simp) ?_
    simp only [pS,List.set]
    with_reducible refine HeldZ.call (v:=.bool (envB eg en em ex et)) (f:=71) (args:=#[.agg #[.int .i64 eg,.int .i64 en,.int .i64 em,.int .i64 ex,.string et]]) rfl (fun u hu => by go_simp) (fun u hu => Calls.mono (specEnvRight_any eg en em ex et u HTJ.out) (by rintro e u2 ⟨rfl,hb⟩;exact ⟨rfl,HKP.out u u2 hu hb⟩)) ?_
    simp only [pS,List.set]
    obtain ⟨z0,hz0⟩ : ∃ z0,envB eg en em ex et = z0:=⟨_,rfl⟩
    rw [hz0]
    have HZ0:=qH hz0
    clear hz0
    cases z0 with
    | false =>
     iterate 2 (with_reducible refine HeldZ.value (v:=.bool true) rfl (fun u hu => by go_simp) ?_; simp only [pS, List.set])
     iterate 5 (with_reducible refine HeldZ.no rfl ?_; simp only [pS, List.set])
     iterate 2 (with_reducible refine HeldZ.value (v:=.bool true) rfl (fun u hu => by go_simp) ?_; simp only [pS, List.set])
     iterate 5 (with_reducible refine HeldZ.no rfl ?_; simp only [pS, List.set])
     iterate 2 (with_reducible refine HeldZ.value (v:=.bool true) rfl (fun u hu => by go_simp) ?_; simp only [pS, List.set])
     iterate 5 (with_reducible refine HeldZ.no rfl ?_; simp only [pS, List.set])
     iterate 2 (with_reducible refine HeldZ.value (v:=.bool true) rfl (fun u hu => by go_simp) ?_; simp only [pS, List.set])
     iterate 9 (with_reducible refine HeldZ.no rfl ?_; simp only [pS, List.set])
     iterate 2 (with_reducible refine HeldZ.value (v:=.bool true) rfl (fun u hu => by go_simp) ?_; simp only [pS, List.set])
     iterate 7 (with_reducible refine HeldZ.no rfl ?_; simp only [pS, List.set])
     with_reducible refine HeldZ.value (v:=.bool true) rfl (fun u hu => by go_simp) ?_
     simp only [pS,List.set]
     refine HeldZ.nil ?_
     intro u hu
     have HU:=qH (HDN.out u hu).1
     have HF:=qH (HNJ.out (by rw [HOK.out];rw [okE_env HZ0.out];rfl))
     clear hu
     go_wp2_with fail
     go_ret
     exact ⟨ret_bool HF.out.symm,HU.out⟩
    | true =>
     iterate 2 (with_reducible refine HeldZ.value (v:=.bool false) rfl (fun u hu => by go_simp) ?_; simp only [pS, List.set])
     with_reducible refine HeldZ.value (v:=.pointer (some ⟨hq,0,none⟩)) rfl (fun u hu => by go_simp) ?_
     simp only [pS,List.set]
     with_reducible refine HeldZ.value (v:=.int .i64 eg) rfl (fun u hu => by obtain ⟨_,hx,hy,he,_⟩:=HSX.out u hu;have y0:=hy.cell 0 _ rfl;go_simp) ?_
     simp only [pS,List.set]
     with_reducible refine HeldZ.value (v:=.pointer (some ⟨w.heap.size,0,none⟩)) rfl (fun u hu => by go_simp) ?_
     simp only [pS,List.set]
     with_reducible refine HeldZ.value (v:=.int .i64 c0) rfl (fun u hu => by obtain ⟨_,hx,hy,he,_⟩:=HSX.out u hu;have y0:=hx.cell 0 _ rfl;go_simp) ?_
     simp only [pS,List.set]
     with_reducible refine HeldZ.value (v:=.bool (eg != c0)) rfl (fun u hu => by go_simp) ?_
     simp only [pS,List.set]
     obtain ⟨z1,hzz1⟩ : ∃ z1,(eg != c0) = z1:=⟨_,rfl⟩
     rw [hzz1]
     have Hz1:=qH hzz1
     clear hzz1
     cases z1 with
     | true =>
      iterate 2 (with_reducible refine HeldZ.value (v:=.bool true) rfl (fun u hu => by go_simp) ?_; simp only [pS, List.set])
      iterate 5 (with_reducible refine HeldZ.no rfl ?_; simp only [pS, List.set])
      iterate 2 (with_reducible refine HeldZ.value (v:=.bool true) rfl (fun u hu => by go_simp) ?_; simp only [pS, List.set])
      iterate 5 (with_reducible refine HeldZ.no rfl ?_; simp only [pS, List.set])
      iterate 2 (with_reducible refine HeldZ.value (v:=.bool true) rfl (fun u hu => by go_simp) ?_; simp only [pS, List.set])
      iterate 9 (with_reducible refine HeldZ.no rfl ?_; simp only [pS, List.set])
      iterate 2 (with_reducible refine HeldZ.value (v:=.bool true) rfl (fun u hu => by go_simp) ?_; simp only [pS, List.set])
      iterate 7 (with_reducible refine HeldZ.no rfl ?_; simp only [pS, List.set])
      with_reducible refine HeldZ.value (v:=.bool true) rfl (fun u hu => by go_simp) ?_
      simp only [pS,List.set]
      refine HeldZ.nil ?_
      intro u hu
      have HU:=qH (HDN.out u hu).1
      have HF:=qH (HNJ.out (by rw [HOK.out];rw [okE_num (fun e => absurd e.1 (by have:=Hz1.out;simpa using this))];rfl))
      clear hu
      go_wp2_with fail
      go_ret
      exact ⟨ret_bool HF.out.symm,HU.out⟩
     | false =>
      iterate 2 (with_reducible refine HeldZ.value (v:=.bool false) rfl (fun u hu => by go_simp) ?_; simp only [pS, List.set])
      with_reducible refine HeldZ.value (v:=.pointer (some ⟨hq,1,none⟩)) rfl (fun u hu => by go_simp) ?_
      simp only [pS,List.set]
      with_reducible refine HeldZ.value (v:=.int .i64 en) rfl (fun u hu => by obtain ⟨_,hx,hy,he,_⟩:=HSX.out u hu;have y1:=hy.cell 1 _ rfl;go_simp) ?_
      simp only [pS,List.set]
      with_reducible refine HeldZ.value (v:=.pointer (some ⟨w.heap.size,1,none⟩)) rfl (fun u hu => by go_simp) ?_
      simp only [pS,List.set]
      with_reducible refine HeldZ.value (v:=.int .i64 c1) rfl (fun u hu => by obtain ⟨_,hx,hy,he,_⟩:=HSX.out u hu;have y1:=hx.cell 1 _ rfl;go_simp) ?_
      simp only [pS,List.set]
      with_reducible refine HeldZ.value (v:=.bool (en != c1)) rfl (fun u hu => by go_simp) ?_
      simp only [pS,List.set]
      obtain ⟨z2,hzz2⟩ : ∃ z2,(en != c1) = z2:=⟨_,rfl⟩
      rw [hzz2]
      have Hz2:=qH hzz2
      clear hzz2
      cases z2 with
      | true =>
       iterate 2 (with_reducible refine HeldZ.value (v:=.bool true) rfl (fun u hu => by go_simp) ?_; simp only [pS, List.set])
       iterate 5 (with_reducible refine HeldZ.no rfl ?_; simp only [pS, List.set])
       iterate 2 (with_reducible refine HeldZ.value (v:=.bool true) rfl (fun u hu => by go_simp) ?_; simp only [pS, List.set])
       iterate 9 (with_reducible refine HeldZ.no rfl ?_; simp only [pS, List.set])
       iterate 2 (with_reducible refine HeldZ.value (v:=.bool true) rfl (fun u hu => by go_simp) ?_; simp only [pS, List.set])
       iterate 7 (with_reducible refine HeldZ.no rfl ?_; simp only [pS, List.set])
       with_reducible refine HeldZ.value (v:=.bool true) rfl (fun u hu => by go_simp) ?_
       simp only [pS,List.set]
       refine HeldZ.nil ?_
       intro u hu
       have HU:=qH (HDN.out u hu).1
       have HF:=qH (HNJ.out (by rw [HOK.out];rw [okE_num (fun e => absurd e.2.1 (by have:=Hz2.out;simpa using this))];rfl))
       clear hu
       go_wp2_with fail
       go_ret
       exact ⟨ret_bool HF.out.symm,HU.out⟩
      | false =>
       iterate 2 (with_reducible refine HeldZ.value (v:=.bool false) rfl (fun u hu => by go_simp) ?_; simp only [pS, List.set])
       with_reducible refine HeldZ.value (v:=.pointer (some ⟨hq,2,none⟩)) rfl (fun u hu => by go_simp) ?_
       simp only [pS,List.set]
       with_reducible refine HeldZ.value (v:=.int .i64 em) rfl (fun u hu => by obtain ⟨_,hx,hy,he,_⟩:=HSX.out u hu;have y2:=hy.cell 2 _ rfl;go_simp) ?_
       simp only [pS,List.set]
       with_reducible refine HeldZ.value (v:=.pointer (some ⟨w.heap.size,2,none⟩)) rfl (fun u hu => by go_simp) ?_
       simp only [pS,List.set]
       with_reducible refine HeldZ.value (v:=.int .i64 c2) rfl (fun u hu => by obtain ⟨_,hx,hy,he,_⟩:=HSX.out u hu;have y2:=hx.cell 2 _ rfl;go_simp) ?_
       simp only [pS,List.set]
       with_reducible refine HeldZ.value (v:=.bool (em != c2)) rfl (fun u hu => by go_simp) ?_
       simp only [pS,List.set]
       obtain ⟨z3,hzz3⟩ : ∃ z3,(em != c2) = z3:=⟨_,rfl⟩
       rw [hzz3]
       have Hz3:=qH hzz3
       clear hzz3
       cases z3 with
       | true =>
        iterate 2 (with_reducible refine HeldZ.value (v:=.bool true) rfl (fun u hu => by go_simp) ?_; simp only [pS, List.set])
        iterate 9 (with_reducible refine HeldZ.no rfl ?_; simp only [pS, List.set])
        iterate 2 (with_reducible refine HeldZ.value (v:=.bool true) rfl (fun u hu => by go_simp) ?_; simp only [pS, List.set])
        iterate 7 (with_reducible refine HeldZ.no rfl ?_; simp only [pS, List.set])
        with_reducible refine HeldZ.value (v:=.bool true) rfl (fun u hu => by go_simp) ?_
        simp only [pS,List.set]
        refine HeldZ.nil ?_
        intro u hu
        have HU:=qH (HDN.out u hu).1
        have HF:=qH (HNJ.out (by rw [HOK.out];rw [okE_num (fun e => absurd e.2.2 (by have:=Hz3.out;simpa using this))];rfl))
        clear hu
        go_wp2_with fail
        go_ret
        exact ⟨ret_bool HF.out.symm,HU.out⟩
       | false =>
        iterate 2 (with_reducible refine HeldZ.value (v:=.bool false) rfl (fun u hu => by go_simp) ?_; simp only [pS, List.set])
        with_reducible refine HeldZ.value (v:=.pointer (some ⟨hq,4,none⟩)) rfl (fun u hu => by go_simp) ?_
        simp only [pS,List.set]
        with_reducible refine HeldZ.value (v:=.string et) rfl (fun u hu => by obtain ⟨_,hx,hy,he,_⟩:=HSX.out u hu;have y4:=hy.cell 4 _ rfl;go_simp) ?_
        simp only [pS,List.set]
        with_reducible refine HeldZ.value (v:=.int .i64 (et.size : Int)) rfl (fun u hu => by go_simp) ?_
        simp only [pS,List.set]
        with_reducible refine HeldZ.value (v:=.slice (some ⟨g,o,none⟩) n cap) rfl (fun u hu => by go_simp) ?_
        simp only [pS,List.set]
        with_reducible refine HeldZ.value (v:=.pointer (some ⟨g,o,none⟩)) rfl (fun u hu => by go_simp) ?_
        simp only [pS,List.set]
        with_reducible refine HeldZ.value (v:=.pointer (some ⟨g,o + 4,none⟩)) rfl (fun u hu => by go_simp) ?_
        simp only [pS,List.set]
        with_reducible refine HeldZ.value (v:=.string e0) rfl (fun u hu => by obtain ⟨_,hx,hy,he,_⟩:=HSX.out u hu;go_simp) ?_
        simp only [pS,List.set]
        with_reducible refine HeldZ.value (v:=.int .i64 (e0.size : Int)) rfl (fun u hu => by go_simp) ?_
        simp only [pS,List.set]
        with_reducible refine HeldZ.value (v:=.bool ((et.size : Int) != (e0.size : Int))) rfl (fun u hu => by go_simp) ?_
        simp only [pS,List.set]
        obtain ⟨z4,hz4⟩ : ∃ z4,((et.size : Int) != (e0.size : Int)) = z4:=⟨_,rfl⟩
        rw [hz4]
        have Hz4:=qH hz4
        clear hz4
        cases z4 with
        | true =>
         iterate 2 (with_reducible refine HeldZ.value (v:=.bool true) rfl (fun u hu => by go_simp) ?_; simp only [pS, List.set])
         iterate 7 (with_reducible refine HeldZ.no rfl ?_; simp only [pS, List.set])
         with_reducible refine HeldZ.value (v:=.bool true) rfl (fun u hu => by go_simp) ?_
         simp only [pS,List.set]
         refine HeldZ.nil ?_
         intro u hu
         have HU:=qH (HDN.out u hu).1
         have HF:=qH (HNJ.out (by rw [HOK.out];rw [decide_eq_false (show ¬ et.size = e0.size from fun e => by have:=Hz4.out;rw [e] at this;simp at this)];simp))
         clear hu
         go_wp2_with fail
         go_ret
         exact ⟨ret_bool HF.out.symm,HU.out⟩
        | false =>
         iterate 2 (with_reducible refine HeldZ.value (v:=.bool false) rfl (fun u hu => by go_simp) ?_; simp only [pS, List.set])
         with_reducible refine HeldZ.value (v:=.slice (some ⟨g,o,none⟩) n cap) rfl (fun u hu => by go_simp) ?_
         simp only [pS,List.set]
         with_reducible refine HeldZ.value (v:=.int .i64 (j : Int)) rfl (fun u hu => by go_simp) ?_
         simp only [pS,List.set]
         with_reducible refine HeldZ.value (v:=.slice (some ⟨g,o,none⟩) j cap) rfl (fun u hu => by have hc:=hcut u;go_simp) ?_
         simp only [pS,List.set]
         with_reducible refine HeldZ.value (v:=.pointer (some ⟨hq,3,none⟩)) rfl (fun u hu => by go_simp) ?_
         simp only [pS,List.set]
         with_reducible refine HeldZ.value (v:=.int .i64 ex) rfl (fun u hu => by obtain ⟨_,hx,hy,he,_⟩:=HSX.out u hu;have y3:=hy.cell 3 _ rfl;go_simp) ?_
         simp only [pS,List.set]
         with_reducible refine HeldZ.call (v:=.int .i64 r) (f:=72) (args:=#[.slice (some ⟨g,o,none⟩) j cap,.int .i64 ex]) rfl (fun u hu => by go_simp) (fun u hu => Calls.mono (l09At_any (some ⟨g,o,none⟩) j cap (l.take j) ex u (SR.take (SR.below HE.out (HDN.out u hu).1) (Nat.le_of_lt hlt)) (by omega)) (by rintro e u2 ⟨rfl,rfl⟩;exact ⟨by rw [HRR.out],hu⟩)) ?_
         simp only [pS,List.set]
         have hge : decide (r ≥ 0) = decide (0 <= r):=rfl
         with_reducible refine HeldZ.value (v:=.bool (decide (0 <= r))) rfl (fun u hu => by go_simp) ?_
         simp only [pS,List.set]
         obtain ⟨z5,hz5⟩ : ∃ z5,decide (0 <= r) = z5:=⟨_,rfl⟩
         rw [hz5]
         have Hz5:=qH hz5
         clear hz5 hge
         with_reducible refine HeldZ.value (v:=.bool z5) rfl (fun u hu => by go_simp) ?_
         simp only [pS,List.set]
         refine HeldZ.nil ?_
         intro u hu
         have HU:=qH (HDN.out u hu).1
         have HUX:=qH (HDN.out u hu).2
         clear hu
         cases z5 with
         | true =>
          have HF:=qH (HNJ.out (by rw [HOK.out,Hz5.out];simp))
          go_wp2_with fail
          go_ret
          exact ⟨ret_bool HF.out.symm,HU.out⟩
         | false =>
          have HF:=qH (HSU.out (by
           have h1:=Hz1.out
           have h2:=Hz2.out
           have h3:=Hz3.out
           have h4:=Hz4.out
           have e1 : eg = c0:=by simpa using h1
           have e2 : en = c1:=by simpa using h2
           have e3 : em = c2:=by simpa using h3
           have e4 : et.size = e0.size:=by have : ((et.size : Int) = (e0.size : Int)):=(by simpa using h4);omega
           rw [HOK.out,Hz5.out,e1,e2,e3,okE_yes (by rw [<- e1,<- e2,<- e3];exact HZ0.out),decide_eq_true e4]
           rfl))
          go_wp2_with fail
          go_roundw
          case rel => exact ⟨j + 1,by omega,by go_num,HF,HU,HUX⟩
          case measure => simp [intOf];omega
  · obtain rfl : j = n:=by omega
    have HF:=qH (HYES.out HA.out)
    by_cases h0 : j = 0
    · subst h0
      go_wp2_with fail
      go_ret
      exact ⟨ret_bool (by rw [HF.out];simp),HB.out⟩
    · have hb0 : ((j : Int) == 0) = false:=by rw [beq_eq_false_iff_ne];omega
      have hd0 : Hid (decide (j = 0) = false):=qH (decide_eq_false h0)
      have x1:=HX.out.cell 1 _ rfl
      clear h0
      go_wp2_with fail
      go_ret
      exact ⟨ret_bool (by rw [HF.out,hd0.out];rfl),HB.out⟩
end Go.Proofs.YthkbcjnbmciolaaGreatDoor
namespace Go.Proofs.YthkbcjnbmciolaaGreatDoor
open Go.RowKit Go.PlainAid G MGF IRow
set_option linter.unusedVariables false
theorem l09Same_any (c0 c1 c2 c3 : Int) (a1 : Option Addr) (n1 a3 : Nat) (a2 : Option Addr) (n2 a4 : Nat) (ts : List Tm) (is : List Im) (d0 d1 d2 d3 : Int) (b1 : Option Addr) (m1 b3 : Nat) (b2 : Option Addr) (m2 b4 : Nat) (us : List Tm) (vs : List Im) (w : World)
 (h : BkR w a1 n1 a3 a2 n2 a4 ts is) (k : BkR w b1 m1 b3 b2 m2 b4 us vs) (hn1 : n1 <= 1048576) (hn2 : n2 <= 1048576) (hm1 : m1 <= 1048576) (hm2 : m2 <= 1048576) :
 Calls Tryz.prog 46 #[.agg #[.int .i64 c0,.int .i64 c1,.int .i64 c2,.int .i64 c3,.slice a1 n1 a3,.slice a2 n2 a4],.agg #[.int .i64 d0,.int .i64 d1,.int .i64 d2,.int .i64 d3,.slice b1 m1 b3,.slice b2 m2 b4]] w fun e w' => e = .returned (.bool (sameB ⟨c0,c1,c2,c3,ts,is⟩ ⟨d0,d1,d2,d3,us,vs⟩)) /\ Below w.heap.size w w':=by
 have HTL:=qH h.t.len
 have HIL:=qH h.i.len
 have HUL:=qH k.t.len
 have HVL:=qH k.i.len
 have HR:=qH h
 have HK:=qH k
 clear h k
 have hmx : Tryz.prog.follows .mixedOrders = true:=by kernel_rfl
 obtain ⟨W,hW⟩ : ∃ W,W = (w.alloc (.cells #[.int .i64 c0,.int .i64 c1,.int .i64 c2,.int .i64 c3,.slice a1 n1 a3,.slice a2 n2 a4] 43)).alloc (.cells #[.int .i64 d0,.int .i64 d1,.int .i64 d2,.int .i64 d3,.slice b1 m1 b3,.slice b2 m2 b4] 43):=⟨_,rfl⟩
 have HB0 : Hid (Below w.heap.size w W):=qH (by rw [hW];exact ((Below.refl _ _).alloc (Nat.le_refl _) _).alloc (by simp) _)
 have HX0 : Hid (BoxC W w.heap.size [.int .i64 c0,.int .i64 c1,.int .i64 c2,.int .i64 c3,.slice a1 n1 a3,.slice a2 n2 a4] /\ BoxC W (w.heap.size + 1) [.int .i64 d0,.int .i64 d1,.int .i64 d2,.int .i64 d3,.slice b1 m1 b3,.slice b2 m2 b4]):=qH (by rw [hW];refine ⟨(BoxC.made w #[.int .i64 c0,.int .i64 c1,.int .i64 c2,.int .i64 c3,.slice a1 n1 a3,.slice a2 n2 a4] 43).alloc _,?_⟩;have:=BoxC.made (w.alloc (.cells #[.int .i64 c0,.int .i64 c1,.int .i64 c2,.int .i64 c3,.slice a1 n1 a3,.slice a2 n2 a4] 43)) #[.int .i64 d0,.int .i64 d1,.int .i64 d2,.int .i64 d3,.slice b1 m1 b3,.slice b2 m2 b4] 43;rwa [World.size_alloc] at this)
 have HSB : Hid (sameB ⟨c0,c1,c2,c3,ts,is⟩ ⟨d0,d1,d2,d3,us,vs⟩ = (eqConf2 c0 c1 c2 c3 d0 d1 d2 d3 && ((decide (n1 = m1) && allTo' (fun i => eqTm (ts.getD i tmD) (us.getD i tmD)) n1) && (decide (n2 = m2) && allTo' (fun i => eqIm (is.getD i imD) (vs.getD i imD)) n2)))):=qH (by unfold sameB eqTmL eqImL;rw [HTL.out,HIL.out,HUL.out,HVL.out])
 obtain ⟨z,hz⟩ : ∃ z,z = !eqConf2 c0 c1 c2 c3 d0 d1 d2 d3:=⟨_,rfl⟩
 have hne : ∀ W : World,(binOp .neq 39 (.agg #[.int .i64 c0,.int .i64 c1,.int .i64 c2,.int .i64 c3]) (.agg #[.int .i64 d0,.int .i64 d1,.int .i64 d2,.int .i64 d3])).run Tryz.prog W = .ok (.bool z) W:=fun W => by rw [hz];exact neq_conf2 c0 c1 c2 c3 d0 d1 d2 d3 W
 have HZ:=qH hz
 clear hz
 go_enter Tryz.func46,Tryz.ntmps46
 go_upto_region 1 with fail
 rw [<- hW]
 clear hW
 have x0:=(HX0.out.1).cell 0 _ rfl
 have x1:=(HX0.out.1).cell 1 _ rfl
 have x2:=(HX0.out.1).cell 2 _ rfl
 have x3:=(HX0.out.1).cell 3 _ rfl
 have x4:=(HX0.out.1).cell 4 _ rfl
 have x5:=(HX0.out.1).cell 5 _ rfl
 have y0:=(HX0.out.2).cell 0 _ rfl
 have y1:=(HX0.out.2).cell 1 _ rfl
 have y2:=(HX0.out.2).cell 2 _ rfl
 have y3:=(HX0.out.2).cell 3 _ rfl
 have y4:=(HX0.out.2).cell 4 _ rfl
 have y5:=(HX0.out.2).cell 5 _ rfl
 cases z with
 | true =>
  have HF : Hid (sameB ⟨c0,c1,c2,c3,ts,is⟩ ⟨d0,d1,d2,d3,us,vs⟩ = false):=qH (by rw [HSB.out,(Bool.not_eq_true' _).mp HZ.out.symm];rfl)
  go_wp2_with fail
  go_ret
  exact ⟨ret_bool HF.out.symm,HB0.out⟩
 | false =>
  have HZ2 : Hid (eqConf2 c0 c1 c2 c3 d0 d1 d2 d3 = true):=qH ((Bool.not_eq_false' _).mp HZ.out.symm)
  by_cases h1 : n1 = m1
  · subst h1
    by_cases h2 : n2 = m2
    · subst h2
      have HSB2 : Hid (sameB ⟨c0,c1,c2,c3,ts,is⟩ ⟨d0,d1,d2,d3,us,vs⟩ = (allTo' (fun i => eqTm (ts.getD i tmD) (us.getD i tmD)) n1 && allTo' (fun i => eqIm (is.getD i imD) (vs.getD i imD)) n2)):=qH (by rw [HSB.out,HZ2.out,decide_eq_true rfl,decide_eq_true rfl,Bool.true_and,Bool.true_and,Bool.true_and])
      go_wp2_with fail
      clear x0 x1 x2 x3 x4 x5 y0 y1 y2 y3 y4 y5 hne HSB HZ
      go_loopw [5] (fun i wr => ∃ j : Nat,j <= n1 /\ i = .int .i64 j /\ Hid (allTo' (fun i => eqTm (ts.getD i tmD) (us.getD i tmD)) j = true) /\ Hid (Below w.heap.size w wr) /\ Hid (BoxC wr w.heap.size [.int .i64 c0,.int .i64 c1,.int .i64 c2,.int .i64 c3,.slice a1 n1 a3,.slice a2 n2 a4] /\ BoxC wr (w.heap.size + 1) [.int .i64 d0,.int .i64 d1,.int .i64 d2,.int .i64 d3,.slice b1 n1 b3,.slice b2 n2 b4])) (fun i _ => n1 - (intOf i).toNat)
      case atStart => exact ⟨0,Nat.zero_le _,rfl,qH rfl,HB0,HX0⟩
      case round =>
       obtain ⟨j,hj,rfl,HA,HB,HX⟩:=hrel
       clear HB0 HX0
       by_cases hlt : j < n1
       · obtain ⟨g,o,rfl,hg,a0x,a1x⟩:=TmR.at HR.out.t hlt
         obtain ⟨g2,o2,rfl,hg2,b0x,b1x⟩:=TmR.at HK.out.t hlt
         have hin : 0 <= (j : Int) /\ (j : Int) < (n1 : Int):=by omega
         have HNJ : Hid (eqTm (ts.getD j tmD) (us.getD j tmD) = false -> allTo' (fun i => eqTm (ts.getD i tmD) (us.getD i tmD)) n1 = false):=qH (fun he => allTo'_no hlt he)
         have HSU : Hid (eqTm (ts.getD j tmD) (us.getD j tmD) = true -> allTo' (fun i => eqTm (ts.getD i tmD) (us.getD i tmD)) (j + 1) = true):=qH (fun he => allTo'_succ HA.out he)
         have HEQ : Hid (eqTm (ts.getD j tmD) (us.getD j tmD) = decide ((ts.getD j tmD).no = (us.getD j tmD).no /\ (ts.getD j tmD).lk = (us.getD j tmD).lk)):=qH rfl
         generalize (ts.getD j tmD).no = p0 at *
         generalize (us.getD j tmD).no = q0 at *
         generalize (ts.getD j tmD).lk = p1 at *
         generalize (us.getD j tmD).lk = q1 at *
         obtain ⟨z,hz⟩ : ∃ z,z = !decide (p0 = q0 /\ p1 = q1):=⟨_,rfl⟩
         have hne : ∀ W : World,(binOp .neq 97 (.agg #[.int .i64 p0,.string p1]) (.agg #[.int .i64 q0,.string q1])).run Tryz.prog W = .ok (.bool z) W:=fun W => by rw [hz];exact neq_term2 p0 q0 p1 q1 W
         have HZ:=qH hz
         have hwj : IntKind.i64.wrap ((j : Int) + 1) = (j : Int) + 1:=IntWalk.i64_in _ (by omega)
         clear hz
         have xc:=HX.out.1.cell 4 _ rfl
         go_upto_region 6 with fail
         clear xc
         have HS0:=qH (show Below w.heap.size w wr.drew /\ (BoxC wr.drew w.heap.size [.int .i64 c0,.int .i64 c1,.int .i64 c2,.int .i64 c3,.slice (some ⟨g,o,none⟩) n1 a3,.slice a2 n2 a4] /\ BoxC wr.drew (w.heap.size + 1) [.int .i64 d0,.int .i64 d1,.int .i64 d2,.int .i64 d3,.slice (some ⟨g2,o2,none⟩) n1 b3,.slice b2 n2 b4]) /\ wr.drew.cell? ⟨g,o + j * 2,none⟩ = some (.int .i64 p0) /\ wr.drew.cell? ⟨g,o + j * 2 + 1,none⟩ = some (.string p1) /\ wr.drew.cell? ⟨g2,o2 + j * 2,none⟩ = some (.int .i64 q0) /\ wr.drew.cell? ⟨g2,o2 + j * 2 + 1,none⟩ = some (.string q1) from ⟨HB.out.drew,⟨HX.out.1.below (Below.refl _ _).drew,HX.out.2.below (Below.refl _ _).drew⟩,(HB.out.drew.cell (p:=⟨g,o + j * 2,none⟩) hg).trans a0x,(HB.out.drew.cell (p:=⟨g,o + j * 2 + 1,none⟩) hg).trans a1x,(HB.out.drew.cell (p:=⟨g2,o2 + j * 2,none⟩) hg2).trans b0x,(HB.out.drew.cell (p:=⟨g2,o2 + j * 2 + 1,none⟩) hg2).trans b1x⟩)
         clear a0x b0x a1x b1x
         refine HeldZ.region hmx (fun u => Below w.heap.size w u /\ (BoxC u w.heap.size [.int .i64 c0,.int .i64 c1,.int .i64 c2,.int .i64 c3,.slice (some ⟨g,o,none⟩) n1 a3,.slice a2 n2 a4] /\ BoxC u (w.heap.size + 1) [.int .i64 d0,.int .i64 d1,.int .i64 d2,.int .i64 d3,.slice (some ⟨g2,o2,none⟩) n1 b3,.slice b2 n2 b4]) /\ u.cell? ⟨g,o + j * 2,none⟩ = some (.int .i64 p0) /\ u.cell? ⟨g,o + j * 2 + 1,none⟩ = some (.string p1) /\ u.cell? ⟨g2,o2 + j * 2,none⟩ = some (.int .i64 q0) /\ u.cell? ⟨g2,o2 + j * 2 + 1,none⟩ = some (.string q1)) (by kernel_rfl) HS0.out ?_
         with_reducible refine HeldZ.value (v:=.pointer (some ⟨w.heap.size,4,none⟩)) rfl (fun u hu => by go_simp) ?_
         simp only [pS,List.set]
         with_reducible refine HeldZ.value (v:=.slice (some ⟨g,o,none⟩) n1 a3) rfl (fun u hu => by have yy:=hu.2.1.1.cell 4 _ rfl;go_simp) ?_
         simp only [pS,List.set]
         with_reducible refine HeldZ.value (v:=.int .i64 (j : Int)) rfl (fun u hu => by go_simp) ?_
         simp only [pS,List.set]
         with_reducible refine HeldZ.value (v:=.pointer (some ⟨g,o + j * 2,none⟩)) rfl (fun u hu => by go_simp) ?_
         simp only [pS,List.set]
         with_reducible refine HeldZ.value (v:=.agg #[.int .i64 p0,.string p1]) rfl (fun u hu => by obtain ⟨_,_,a0,a1,b0,b1⟩:=hu;go_simp) ?_
         simp only [pS,List.set]
         with_reducible refine HeldZ.value (v:=.pointer (some ⟨w.heap.size + 1,4,none⟩)) rfl (fun u hu => by go_simp) ?_
         simp only [pS,List.set]
         with_reducible refine HeldZ.value (v:=.slice (some ⟨g2,o2,none⟩) n1 b3) rfl (fun u hu => by have yy:=hu.2.1.2.cell 4 _ rfl;go_simp) ?_
         simp only [pS,List.set]
         with_reducible refine HeldZ.value (v:=.int .i64 (j : Int)) rfl (fun u hu => by go_simp) ?_
         simp only [pS,List.set]
         with_reducible refine HeldZ.value (v:=.pointer (some ⟨g2,o2 + j * 2,none⟩)) rfl (fun u hu => by go_simp) ?_
         simp only [pS,List.set]
         with_reducible refine HeldZ.value (v:=.agg #[.int .i64 q0,.string q1]) rfl (fun u hu => by obtain ⟨_,_,a0,a1,b0,b1⟩:=hu;go_simp) ?_
         simp only [pS,List.set]
         with_reducible refine HeldZ.value (v:=.bool z) rfl (fun u hu => by go_simp) ?_
         simp only [pS,List.set]
         refine HeldZ.nil ?_
         intro u hu
         have HBU:=qH hu.1
         have HXU:=qH hu.2.1
         clear hu hne
         cases z with
         | false =>
          have HA2:=qH (HSU.out (by rw [HEQ.out];exact (Bool.not_eq_false' _).mp HZ.out.symm))
          go_wp2_with fail
          go_roundw
          case rel => exact ⟨j + 1,by omega,by go_num,HA2,HBU,HXU⟩
          case measure => simp [intOf];omega
         | true =>
          have HF:=qH (HNJ.out (by rw [HEQ.out];exact (Bool.not_eq_true' _).mp HZ.out.symm))
          go_wp2_with fail
          go_ret
          exact ⟨ret_bool (by rw [HSB2.out,HF.out];simp),HBU.out⟩
       · obtain rfl : n1 = j:=by omega
         have HDTerm:=HA
         have xc:=HX.out.1.cell 4 _ rfl
         go_wp2_with fail
         clear xc
         have HB9:=HB
         have HX9:=HX
         clear HB HX
         go_loopw [6] (fun i wr => ∃ j : Nat,j <= n2 /\ i = .int .i64 j /\ Hid (allTo' (fun i => eqIm (is.getD i imD) (vs.getD i imD)) j = true) /\ Hid (Below w.heap.size w wr) /\ Hid (BoxC wr w.heap.size [.int .i64 c0,.int .i64 c1,.int .i64 c2,.int .i64 c3,.slice a1 n1 a3,.slice a2 n2 a4] /\ BoxC wr (w.heap.size + 1) [.int .i64 d0,.int .i64 d1,.int .i64 d2,.int .i64 d3,.slice b1 n1 b3,.slice b2 n2 b4])) (fun i _ => n2 - (intOf i).toNat)
         case atStart => exact ⟨0,Nat.zero_le _,rfl,qH rfl,HB9,HX9⟩
         case round =>
          obtain ⟨j,hj,rfl,HA,HB,HX⟩:=hrel
          clear HB9 HX9
          by_cases hlt : j < n2
          · obtain ⟨g,o,rfl,hg,a0x,a1x,a2x⟩:=ImR.at HR.out.i hlt
            obtain ⟨g2,o2,rfl,hg2,b0x,b1x,b2x⟩:=ImR.at HK.out.i hlt
            have hin : 0 <= (j : Int) /\ (j : Int) < (n2 : Int):=by omega
            have HNJ : Hid (eqIm (is.getD j imD) (vs.getD j imD) = false -> allTo' (fun i => eqIm (is.getD i imD) (vs.getD i imD)) n2 = false):=qH (fun he => allTo'_no hlt he)
            have HSU : Hid (eqIm (is.getD j imD) (vs.getD j imD) = true -> allTo' (fun i => eqIm (is.getD i imD) (vs.getD i imD)) (j + 1) = true):=qH (fun he => allTo'_succ HA.out he)
            have HEQ : Hid (eqIm (is.getD j imD) (vs.getD j imD) = decide ((is.getD j imD).nm = (vs.getD j imD).nm /\ (is.getD j imD).tm = (vs.getD j imD).tm /\ (is.getD j imD).bd = (vs.getD j imD).bd)):=qH rfl
            generalize (is.getD j imD).nm = p0 at *
            generalize (vs.getD j imD).nm = q0 at *
            generalize (is.getD j imD).tm = p1 at *
            generalize (vs.getD j imD).tm = q1 at *
            generalize (is.getD j imD).bd = p2 at *
            generalize (vs.getD j imD).bd = q2 at *
            obtain ⟨z,hz⟩ : ∃ z,z = !decide (p0 = q0 /\ p1 = q1 /\ p2 = q2):=⟨_,rfl⟩
            have hne : ∀ W : World,(binOp .neq 62 (.agg #[.string p0,.int .i64 p1,.string p2]) (.agg #[.string q0,.int .i64 q1,.string q2])).run Tryz.prog W = .ok (.bool z) W:=fun W => by rw [hz];exact neq_item2 p0 q0 p1 q1 p2 q2 W
            have HZ:=qH hz
            have hwj : IntKind.i64.wrap ((j : Int) + 1) = (j : Int) + 1:=IntWalk.i64_in _ (by omega)
            clear hz
            have xc:=HX.out.1.cell 5 _ rfl
            go_upto_region 11 with fail
            clear xc
            have HS0:=qH (show Below w.heap.size w wr.drew /\ (BoxC wr.drew w.heap.size [.int .i64 c0,.int .i64 c1,.int .i64 c2,.int .i64 c3,.slice a1 n1 a3,.slice (some ⟨g,o,none⟩) n2 a4] /\ BoxC wr.drew (w.heap.size + 1) [.int .i64 d0,.int .i64 d1,.int .i64 d2,.int .i64 d3,.slice b1 n1 b3,.slice (some ⟨g2,o2,none⟩) n2 b4]) /\ wr.drew.cell? ⟨g,o + j * 3,none⟩ = some (.string p0) /\ wr.drew.cell? ⟨g,o + j * 3 + 1,none⟩ = some (.int .i64 p1) /\ wr.drew.cell? ⟨g,o + j * 3 + 2,none⟩ = some (.string p2) /\ wr.drew.cell? ⟨g2,o2 + j * 3,none⟩ = some (.string q0) /\ wr.drew.cell? ⟨g2,o2 + j * 3 + 1,none⟩ = some (.int .i64 q1) /\ wr.drew.cell? ⟨g2,o2 + j * 3 + 2,none⟩ = some (.string q2) from ⟨HB.out.drew,⟨HX.out.1.below (Below.refl _ _).drew,HX.out.2.below (Below.refl _ _).drew⟩,(HB.out.drew.cell (p:=⟨g,o + j * 3,none⟩) hg).trans a0x,(HB.out.drew.cell (p:=⟨g,o + j * 3 + 1,none⟩) hg).trans a1x,(HB.out.drew.cell (p:=⟨g,o + j * 3 + 2,none⟩) hg).trans a2x,(HB.out.drew.cell (p:=⟨g2,o2 + j * 3,none⟩) hg2).trans b0x,(HB.out.drew.cell (p:=⟨g2,o2 + j * 3 + 1,none⟩) hg2).trans b1x,(HB.out.drew.cell (p:=⟨g2,o2 + j * 3 + 2,none⟩) hg2).trans b2x⟩)
            clear a0x b0x a1x b1x a2x b2x
            refine HeldZ.region hmx (fun u => Below w.heap.size w u /\ (BoxC u w.heap.size [.int .i64 c0,.int .i64 c1,.int .i64 c2,.int .i64 c3,.slice a1 n1 a3,.slice (some ⟨g,o,none⟩) n2 a4] /\ BoxC u (w.heap.size + 1) [.int .i64 d0,.int .i64 d1,.int .i64 d2,.int .i64 d3,.slice b1 n1 b3,.slice (some ⟨g2,o2,none⟩) n2 b4]) /\ u.cell? ⟨g,o + j * 3,none⟩ = some (.string p0) /\ u.cell? ⟨g,o + j * 3 + 1,none⟩ = some (.int .i64 p1) /\ u.cell? ⟨g,o + j * 3 + 2,none⟩ = some (.string p2) /\ u.cell? ⟨g2,o2 + j * 3,none⟩ = some (.string q0) /\ u.cell? ⟨g2,o2 + j * 3 + 1,none⟩ = some (.int .i64 q1) /\ u.cell? ⟨g2,o2 + j * 3 + 2,none⟩ = some (.string q2)) (by kernel_rfl) HS0.out ?_
            with_reducible refine HeldZ.value (v:=.pointer (some ⟨w.heap.size,5,none⟩)) rfl (fun u hu => by go_simp) ?_
            simp only [pS,List.set]
            with_reducible refine HeldZ.value (v:=.slice (some ⟨g,o,none⟩) n2 a4) rfl (fun u hu => by have yy:=hu.2.1.1.cell 5 _ rfl;go_simp) ?_
            simp only [pS,List.set]
            with_reducible refine HeldZ.value (v:=.int .i64 (j : Int)) rfl (fun u hu => by go_simp) ?_
            simp only [pS,List.set]
            with_reducible refine HeldZ.value (v:=.pointer (some ⟨g,o + j * 3,none⟩)) rfl (fun u hu => by go_simp) ?_
            simp only [pS,List.set]
            with_reducible refine HeldZ.value (v:=.agg #[.string p0,.int .i64 p1,.string p2]) rfl (fun u hu => by obtain ⟨_,_,a0,a1,a2,b0,b1,b2⟩:=hu;go_simp) ?_
            simp only [pS,List.set]
            with_reducible refine HeldZ.value (v:=.pointer (some ⟨w.heap.size + 1,5,none⟩)) rfl (fun u hu => by go_simp) ?_
            simp only [pS,List.set]
            with_reducible refine HeldZ.value (v:=.slice (some ⟨g2,o2,none⟩) n2 b4) rfl (fun u hu => by have yy:=hu.2.1.2.cell 5 _ rfl;go_simp) ?_
            simp only [pS,List.set]
            with_reducible refine HeldZ.value (v:=.int .i64 (j : Int)) rfl (fun u hu => by go_simp) ?_
            simp only [pS,List.set]
            with_reducible refine HeldZ.value (v:=.pointer (some ⟨g2,o2 + j * 3,none⟩)) rfl (fun u hu => by go_simp) ?_
            simp only [pS,List.set]
            with_reducible refine HeldZ.value (v:=.agg #[.string q0,.int .i64 q1,.string q2]) rfl (fun u hu => by obtain ⟨_,_,a0,a1,a2,b0,b1,b2⟩:=hu;go_simp) ?_
            simp only [pS,List.set]
            with_reducible refine HeldZ.value (v:=.bool z) rfl (fun u hu => by go_simp) ?_
            simp only [pS,List.set]
            refine HeldZ.nil ?_
            intro u hu
            have HBU:=qH hu.1
            have HXU:=qH hu.2.1
            clear hu hne
            cases z with
            | false =>
             have HA2:=qH (HSU.out (by rw [HEQ.out];exact (Bool.not_eq_false' _).mp HZ.out.symm))
             go_wp2_with fail
             go_roundw
             case rel => exact ⟨j + 1,by omega,by go_num,HA2,HBU,HXU⟩
             case measure => simp [intOf];omega
            | true =>
             have HF:=qH (HNJ.out (by rw [HEQ.out];exact (Bool.not_eq_true' _).mp HZ.out.symm))
             go_wp2_with fail
             go_ret
             exact ⟨ret_bool (by rw [HSB2.out,HF.out];simp),HBU.out⟩
          · obtain rfl : n2 = j:=by omega
            have HDItem:=HA
            have xc:=HX.out.1.cell 5 _ rfl
            go_wp2_with fail
            clear xc
            go_ret
            exact ⟨ret_bool (by rw [HSB2.out,HDTerm.out,HDItem.out];rfl),HB.out⟩
    · have hb2 : ((n2 : Int) != (m2 : Int)) = true:=by simp;omega
      have HF : Hid (sameB ⟨c0,c1,c2,c3,ts,is⟩ ⟨d0,d1,d2,d3,us,vs⟩ = false):=qH (by rw [HSB.out,decide_eq_false h2];simp)
      clear h2
      go_wp2_with fail
      go_ret
      exact ⟨ret_bool HF.out.symm,HB0.out⟩
  · have hb1 : ((n1 : Int) != (m1 : Int)) = true:=by simp;omega
    have HF : Hid (sameB ⟨c0,c1,c2,c3,ts,is⟩ ⟨d0,d1,d2,d3,us,vs⟩ = false):=qH (by rw [HSB.out,decide_eq_false h1];simp)
    clear h1
    go_wp2_with fail
    go_ret
    exact ⟨ret_bool HF.out.symm,HB0.out⟩
end Go.Proofs.YthkbcjnbmciolaaGreatDoor
namespace Go.Proofs.YthkbcjnbmciolaaGreatDoor
open Go.RowKit Go.PlainAid G MGet MGF IRow MNum MJoin
set_option linter.unusedVariables false
def timeB (n : Int) : Bool:=decide (0 <= n /\ n <= 1000000)
def vaultB (ds dt : ByteArray) (c0 c1 c2 c3 : Int) (op : Bool) (ma : ByteArray) (no : Int) (on : Bool) (nd mn : Int) (ts : List Tm) (is : List Im) (gs rs : List Ev) : Bool :=
 onDiskB ds dt ⟨c0,c1,c2,c3,ts,is⟩ && (timeB no && (masterB op ma c0 c1 c2 c3 && (gotB op c0 c1 c2 gs && rekeyB op on nd mn c0 c1 c2 rs)))
structure VG (ds dt ma : ByteArray) (n1 n2 gn rn : Nat) (gs rs : List Ev) : Prop where
 d : ds.size + dt.size <= 1048576
 m : ma.size <= maxLen
 n : n1 <= 1048576 /\ n2 <= 1048576 /\ gn <= 1048576 /\ rn <= 1048576
 g : ∀ t,t < gn -> (gs.getD t evD).t.size <= maxLen
 r : ∀ t,t < rn -> (rs.getD t evD).t.size <= maxLen
theorem implVaultRight_any (ds dt : ByteArray) (c0 c1 c2 c3 : Int) (op : Bool) (ma : ByteArray) (no : Int) (on : Bool) (nd mn : Int) (a1 : Option Addr) (n1 a3 : Nat) (a2 : Option Addr) (n2 a4 : Nat) (ts : List Tm) (is : List Im) (g1 : Option Addr) (gn g2 : Nat) (gs : List Ev) (r1 : Option Addr) (rn r2 : Nat) (rs : List Ev) (w : World) (h : VR w a1 n1 a3 a2 n2 a4 ts is g1 gn g2 gs r1 rn r2 rs) (hv : VG ds dt ma n1 n2 gn rn gs rs) (hg : ET w) :
 Calls Tryz.prog 25 #[.agg #[.string ds,.string dt,.int .i64 c0,.int .i64 c1,.int .i64 c2,.int .i64 c3,.slice a1 n1 a3,.slice a2 n2 a4,.bool op,.string ma,.slice g1 gn g2,.int .i64 no,.bool on,.int .i64 nd,.int .i64 mn,.slice r1 rn r2]] w fun e w' => e = .returned (.bool (vaultB ds dt c0 c1 c2 c3 op ma no on nd mn ts is gs rs)) /\ Below w.heap.size w w':=by
 have HR:=qH h
 have HV:=qH hv
 clear h hv
 obtain ⟨W,hW⟩ : ∃ W,W = w.alloc (.cells #[.string ds,.string dt,.int .i64 c0,.int .i64 c1,.int .i64 c2,.int .i64 c3,.slice a1 n1 a3,.slice a2 n2 a4,.bool op,.string ma,.slice g1 gn g2,.int .i64 no,.bool on,.int .i64 nd,.int .i64 mn,.slice r1 rn r2] 48):=⟨_,rfl⟩
 have HB0:=qH (show Below w.heap.size w W by rw [hW];exact (Below.refl _ _).alloc (Nat.le_refl _) _)
 have HX0:=qH (show BoxC W w.heap.size [.string ds,.string dt,.int .i64 c0,.int .i64 c1,.int .i64 c2,.int .i64 c3,.slice a1 n1 a3,.slice a2 n2 a4,.bool op,.string ma,.slice g1 gn g2,.int .i64 no,.bool on,.int .i64 nd,.int .i64 mn,.slice r1 rn r2] by rw [hW];exact BoxC.made _ _ _)
 have HVB : Hid (vaultB ds dt c0 c1 c2 c3 op ma no on nd mn ts is gs rs = (onDiskB ds dt ⟨c0,c1,c2,c3,ts,is⟩ && (timeB no && (masterB op ma c0 c1 c2 c3 && (gotB op c0 c1 c2 gs && rekeyB op on nd mn c0 c1 c2 rs))))):=qH rfl
 go_enter Tryz.func25,Tryz.ntmps25
 go_upto_region 1 with fail
 rw [<- hW]
 clear hW
 have y0:=HX0.out.cell 0 _ rfl
 have y1:=HX0.out.cell 1 _ rfl
 have y2:=HX0.out.cell 2 _ rfl
 have y3:=HX0.out.cell 3 _ rfl
 have y4:=HX0.out.cell 4 _ rfl
 have y5:=HX0.out.cell 5 _ rfl
 have y6:=HX0.out.cell 6 _ rfl
 have y7:=HX0.out.cell 7 _ rfl
 go_wp2_with fail
 clear y0 y1 y2 y3 y4 y5 y6 y7
 refine (onDisk_any ds dt c0 c1 c2 c3 a1 n1 a3 a2 n2 a4 ts is W (by have:=HV.out.d;omega) (HR.out.b.below HB0.out) HV.out.n.1 HV.out.n.2.1 (hg.below HB0.out)).mono ?_
 rintro e w1 ⟨rfl,hb⟩
 have HX1:=qH (HX0.out.below hb)
 have HB1:=qH (HB0.out.trans (hb.mono HB0.out.size))
 clear hb HX0 HB0
 generalize onDiskB ds dt ⟨c0,c1,c2,c3,ts,is⟩ = z1 at *
 cases z1 with
 | false =>
  go_wp2_with fail
  go_ret
  exact ⟨ret_bool (by rw [HVB.out];rfl),HB1.out⟩
 | true =>
  have y11:=HX1.out.cell 11 _ rfl
  obtain ⟨z2,hz2⟩ : ∃ z2,z2 = decide (0 <= no /\ no <= 1000000):=⟨_,rfl⟩
  have HZ2 : Hid (timeB no = z2):=qH hz2.symm
  have HTM : Hid (∀ u,Calls Tryz.prog 55 #[.int .i64 no] u fun e w' => e = .returned (.bool z2) /\ u = w'):=qH (fun u => by rw [hz2];exact isTime_any no u)
  clear hz2
  cases z2 with
  | false =>
   go_wp2_with (go_at_call 55;refine (HTM.out _).mono ?_;rintro e w2 ⟨rfl,rfl⟩)
   go_ret
   exact ⟨ret_bool (by rw [HVB.out,HZ2.out];rfl),HB1.out⟩
  | true =>
   have y0:=HX1.out.cell 0 _ rfl
   have y1:=HX1.out.cell 1 _ rfl
   have y2:=HX1.out.cell 2 _ rfl
   have y3:=HX1.out.cell 3 _ rfl
   have y4:=HX1.out.cell 4 _ rfl
   have y5:=HX1.out.cell 5 _ rfl
   have y6:=HX1.out.cell 6 _ rfl
   have y7:=HX1.out.cell 7 _ rfl
   have y8:=HX1.out.cell 8 _ rfl
   have y9:=HX1.out.cell 9 _ rfl
   have y10:=HX1.out.cell 10 _ rfl
   have y12:=HX1.out.cell 12 _ rfl
   have y13:=HX1.out.cell 13 _ rfl
   have y14:=HX1.out.cell 14 _ rfl
   have y15:=HX1.out.cell 15 _ rfl
   have HMC : Hid (∀ u,Calls Tryz.prog 56 #[.agg #[.string ds,.string dt,.int .i64 c0,.int .i64 c1,.int .i64 c2,.int .i64 c3,.slice a1 n1 a3,.slice a2 n2 a4,.bool op,.string ma,.slice g1 gn g2,.int .i64 no,.bool on,.int .i64 nd,.int .i64 mn,.slice r1 rn r2]] u fun e w' => e = .returned (.bool (masterB op ma c0 c1 c2 c3)) /\ Below u.heap.size u w'):=qH (fun u => masterRight_any ds dt c0 c1 c2 c3 op ma no on nd mn a1 n1 a3 a2 n2 a4 g1 gn g2 r1 rn r2 u HV.out.m)
   have HGC : Hid (∀ u,Below w.heap.size w u -> Calls Tryz.prog 57 #[.agg #[.string ds,.string dt,.int .i64 c0,.int .i64 c1,.int .i64 c2,.int .i64 c3,.slice a1 n1 a3,.slice a2 n2 a4,.bool op,.string ma,.slice g1 gn g2,.int .i64 no,.bool on,.int .i64 nd,.int .i64 mn,.slice r1 rn r2]] u fun e w' => e = .returned (.bool (gotB op c0 c1 c2 gs)) /\ Below u.heap.size u w'):=qH (fun u hu => gotRight_any ds dt c0 c1 c2 c3 op ma no on nd mn a1 n1 a3 a2 n2 a4 g1 gn g2 r1 rn r2 u gs (SR.below HR.out.g hu) HV.out.n.2.2.1 HV.out.g)
   have HKC : Hid (∀ u,Below w.heap.size w u -> Calls Tryz.prog 58 #[.agg #[.string ds,.string dt,.int .i64 c0,.int .i64 c1,.int .i64 c2,.int .i64 c3,.slice a1 n1 a3,.slice a2 n2 a4,.bool op,.string ma,.slice g1 gn g2,.int .i64 no,.bool on,.int .i64 nd,.int .i64 mn,.slice r1 rn r2]] u fun e w' => e = .returned (.bool (rekeyB op on nd mn c0 c1 c2 rs)) /\ Below u.heap.size u w'):=qH (fun u hu => rekeyRight_any ds dt c0 c1 c2 c3 op ma no on nd mn a1 n1 a3 a2 n2 a4 g1 gn g2 r1 rn r2 u rs (SR.below HR.out.r hu) HV.out.n.2.2.2 HV.out.r)
   have HVB2 : Hid (vaultB ds dt c0 c1 c2 c3 op ma no on nd mn ts is gs rs = (masterB op ma c0 c1 c2 c3 && (gotB op c0 c1 c2 gs && rekeyB op on nd mn c0 c1 c2 rs))):=qH (by rw [HVB.out,HZ2.out];rfl)
   clear HVB HZ2
   generalize masterB op ma c0 c1 c2 c3 = z3 at *
   generalize gotB op c0 c1 c2 gs = z4 at *
   generalize rekeyB op on nd mn c0 c1 c2 rs = z5 at *
   cases z3 with
   | false =>
    go_wp2_with (first | (go_at_call 55;refine (HTM.out _).mono ?_;rintro e w2 ⟨rfl,rfl⟩) | (go_at_call 56;refine Calls.mono (HMC.out _) ?_;rintro e w2 ⟨rfl,hb⟩;have HB2:=qH (HB1.out.trans (hb.mono HB1.out.size));clear hb y0 y1 y2 y3 y4 y5 y6 y7 y8 y9 y10 y11 y12 y13 y14 y15))
    go_ret
    exact ⟨ret_bool (by rw [HVB2.out];rfl),HB2.out⟩
   | true =>
    go_wp2_with (first | (go_at_call 55;refine (HTM.out _).mono ?_;rintro e w2 ⟨rfl,rfl⟩) | (go_at_call 56;refine Calls.mono (HMC.out _) ?_;rintro e w2 ⟨rfl,hb⟩;have HX2:=qH (HX1.out.below hb);have HB2:=qH (HB1.out.trans (hb.mono HB1.out.size));clear hb y0 y1 y2 y3 y4 y5 y6 y7 y8 y9 y10 y11 y12 y13 y14 y15;have y0:=HX2.out.cell 0 _ rfl;have y1:=HX2.out.cell 1 _ rfl;have y2:=HX2.out.cell 2 _ rfl;have y3:=HX2.out.cell 3 _ rfl;have y4:=HX2.out.cell 4 _ rfl;have y5:=HX2.out.cell 5 _ rfl;have y6:=HX2.out.cell 6 _ rfl;have y7:=HX2.out.cell 7 _ rfl;have y8:=HX2.out.cell 8 _ rfl;have y9:=HX2.out.cell 9 _ rfl;have y10:=HX2.out.cell 10 _ rfl;have y11:=HX2.out.cell 11 _ rfl;have y12:=HX2.out.cell 12 _ rfl;have y13:=HX2.out.cell 13 _ rfl;have y14:=HX2.out.cell 14 _ rfl;have y15:=HX2.out.cell 15 _ rfl) | (go_at_call 57;refine Calls.mono (HGC.out _ HB2.out) ?_;rintro e w3 ⟨rfl,hb⟩;have HX3:=qH (HX2.out.below hb);have HB3:=qH (HB2.out.trans (hb.mono HB2.out.size));clear hb y0 y1 y2 y3 y4 y5 y6 y7 y8 y9 y10 y11 y12 y13 y14 y15;have y0:=HX3.out.cell 0 _ rfl;have y1:=HX3.out.cell 1 _ rfl;have y2:=HX3.out.cell 2 _ rfl;have y3:=HX3.out.cell 3 _ rfl;have y4:=HX3.out.cell 4 _ rfl;have y5:=HX3.out.cell 5 _ rfl;have y6:=HX3.out.cell 6 _ rfl;have y7:=HX3.out.cell 7 _ rfl;have y8:=HX3.out.cell 8 _ rfl;have y9:=HX3.out.cell 9 _ rfl;have y10:=HX3.out.cell 10 _ rfl;have y11:=HX3.out.cell 11 _ rfl;have y12:=HX3.out.cell 12 _ rfl;have y13:=HX3.out.cell 13 _ rfl;have y14:=HX3.out.cell 14 _ rfl;have y15:=HX3.out.cell 15 _ rfl;cases z4) | (go_at_call 58;refine Calls.mono (HKC.out _ HB3.out) ?_;rintro e w4 ⟨rfl,hb⟩;have HB4:=qH (HB3.out.trans (hb.mono HB3.out.size));clear hb y0 y1 y2 y3 y4 y5 y6 y7 y8 y9 y10 y11 y12 y13 y14 y15))
    all_goals go_ret
    · exact ⟨ret_bool (by rw [HVB2.out];rfl),HB3.out⟩
    · exact ⟨ret_bool (by rw [HVB2.out];simp),HB4.out⟩
end Go.Proofs.YthkbcjnbmciolaaGreatDoor
