/- The statement, proved: at every argument that can be read the law answers true and leaves its arguments as they were. -/
import Derived.SevenTiedAt
import Derived.ChangeOld
import Derived.Carry
import Derived.Test.YthkbcjnbmciolaaGreatDoorQV41
set_option maxRecDepth 100000
set_option maxHeartbeats 16000000
namespace Go.Proofs.YthkbcjnbmciolaaGreatDoor.fnExactData
open Go.ChangeShapes Go.WideShapes Go.ChangeAt Go.RowKit IRow
open Go.ChangeMaps (open_string shut_string)
set_option linter.unusedVariables false
theorem laidOut : laidOutB Tryz.prog = true:=by kernel_rfl
open G MGet
/-! ### The walk. -/
theorem walk (ds : ByteArray) (dt : ByteArray) (c0 : Int) (c1 : Int) (c2 : Int) (c3 : Int) (a1 : Option Addr) (n1 : Nat) (a3 : Nat) (a2 : Option Addr) (n2 : Nat) (a4 : Nat) (ts : List Tm) (is : List Im) (op : Bool) (ma : ByteArray) (g1 : Option Addr) (gn : Nat) (g2 : Nat) (gs : List Ev) (no : Int) (on : Bool) (nd : Int) (mn : Int) (r1 : Option Addr) (rn : Nat) (r2 : Nat) (rs : List Ev) (bb : ByteArray) (wbb : bb.size <= maxLen) (w : World) (hR : VtR w ds dt a1 n1 a3 a2 n2 a4 ts is ma g1 gn g2 gs r1 rn r2 rs) (hg : ET w) :
 Calls Tryz.prog 3 #[.agg #[.string ds,.string dt,.int .i64 c0,.int .i64 c1,.int .i64 c2,.int .i64 c3,.slice a1 n1 a3,.slice a2 n2 a4,.bool op,.string ma,.slice g1 gn g2,.int .i64 no,.bool on,.int .i64 nd,.int .i64 mn,.slice r1 rn r2],.string bb] w fun e w' => e = .returned (.bool true) /\ Below w.heap.size w w':=by
 obtain ⟨p,hin,hv⟩:=vault_named (c0:=c0) (c1:=c1) (c2:=c2) (c3:=c3) (op:=op) (no:=no) (on:=on) (nd:=nd) (mn:=mn) hR
 clear hR
 generalize hva : (Value.agg #[.string ds,.string dt,.int .i64 c0,.int .i64 c1,.int .i64 c2,.int .i64 c3,.slice a1 n1 a3,.slice a2 n2 a4,.bool op,.string ma,.slice g1 gn g2,.int .i64 no,.bool on,.int .i64 nd,.int .i64 mn,.slice r1 rn r2]) = va at hv ⊢
 clear hva
 have HI:=qH hin
 have HV:=qH hv
 clear hin hv
 obtain ⟨W,hW⟩ : ∃ W,W = w.alloc (.cells (cellsV va) 34):=⟨_,rfl⟩
 have HB0 : Hid (Below w.heap.size w W):=qH (by rw [hW];exact (Below.refl _ _).alloc (Nat.le_refl _) _)
 have HA : Hid (BV va W w.heap.size):=qH (by rw [hW];exact BV.made w HV.out.cells _)
 have HRW : Hid (∀ u : World,Below W.heap.size W u -> VV p va u):=qH (fun u hu => HV.out.below (HB0.out.trans (hu.mono HB0.out.size)))
 have HEW : Hid (∀ u : World,Below W.heap.size W u -> ET u):=qH (fun u hu => hg.below (HB0.out.trans (hu.mono HB0.out.size)))
 go_enter Tryz.func3,Tryz.ntmps3
 go_upto_region 1 with (refine list_value rfl (exec_box (v:=va) 34 _ rfl rfl) ?_;simp only [pS,List.set])
 rw [<- hW]
 clear hW
 by_cases hbl : (bb.size : Int) > 1048576
 · go_wp2_with fail
   go_ret
   exact ⟨rfl,HB0.out⟩
 go_wp2_with (refine list_loadV HA.out 34 _ rfl rfl rfl (by kernel_rfl) ?_;simp only [pS,List.set])
 refine (szVaultV (HRW.out _ (Below.refl _ _)) HI.out).mono ?_
 rintro e v1 ⟨r,rfl,hr,hb⟩
 have HB1 : Hid (Below W.heap.size W v1):=qH hb
 clear hb
 rcases hr with rfl | ⟨rr0,rr1,hgd⟩
 · go_wp2_with fail
   go_ret
   exact ⟨rfl,HB0.out.trans (HB1.out.mono HB0.out.size)⟩
 have hnn : ¬ r < 0:=by omega
 have HG:=qH hgd
 clear hgd
 go_wp2_with (refine list_loadV (HA.out.below HB1.out) 34 _ rfl rfl rfl (by kernel_rfl) ?_;simp only [pS,List.set])
 refine (toVaultV (HRW.out _ HB1.out) HG.out).mono ?_
 rintro e v2 ⟨vb,rfl,ho,hb⟩
 have HB2:=qH (HB1.out.trans (hb.mono HB1.out.size))
 have HO2:=qH ho.read
 have hdl:=data_len bb HO2.out HG.out
 clear hb ho
 obtain ⟨D,hD⟩ : ∃ D,p.data bb = D:=⟨_,rfl⟩
 have HSP : Hid (∀ (u : World) (v : Value),VV p v u -> Calls Tryz.prog 5 #[v,.string bb] u fun e u' => ∃ (a : Option Addr) (c : Nat),e = .returned (.slice a D.length c) /\ u'.ownsRow u.heap.size 66 pwE.k (.slice a D.length c) D.length (pwE.flat D) /\ Below u.heap.size u u'):=qH (fun u v h => by rw [<- hD];exact specDataV bb h HG.out wbb)
 have HIM : Hid (∀ (u : World) (v : Value),VV p v u -> ET u -> Calls Tryz.prog 7 #[v,.string bb] u fun e u' => ∃ (a : Option Addr) (c : Nat),e = .returned (.slice a D.length c) /\ u'.ownsRow u.heap.size 66 pwE.k (.slice a D.length c) D.length (pwE.flat D) /\ Below u.heap.size u u'):=qH (fun u v h he => by rw [<- hD];exact implDataV bb h HG.out he wbb)
 rw [hD] at hdl
 clear hD
 have HDL:=qH hdl
 clear hdl
 go_wp2_with fail
 refine (HSP.out _ _ HO2.out).mono ?_
 rintro e v3 ⟨wa,wc,rfl,hw,hb⟩
 have HB3:=qH (HB2.out.trans (hb.mono HB2.out.size))
 have HWR:=qH hw
 have HWQ : Hid (∀ q,(Value.slice wa D.length wc).ownBlock = some q -> q < v3.heap.size):=qH (fun q hq => (hw.lt q hq).2)
 clear hb hw HO2 HSP HB1 HB2
 go_wp2_with (refine list_loadV (HA.out.below HB3.out) 34 _ rfl rfl rfl (by kernel_rfl) ?_;simp only [pS,List.set])
 refine (toVaultV (HRW.out _ HB3.out) HG.out).mono ?_
 rintro e v4 ⟨ve,rfl,ho,hb⟩
 obtain ⟨V,hA,⟨zs,hz,hZ⟩,hVB⟩:=allocV v4
 have HAL:=qH hA
 have HV34 : Hid (v3.heap.size <= v4.heap.size /\ Below v3.heap.size v3 v4):=qH ⟨hb.size,hb⟩
 have HZ:=qH hZ
 have HZL:=qH hz
 have HVC:=qH ho.read.cells
 have HVN:=qH ho
 have hG:=storeV_grown V v4.heap.size ve
 have HX : Hid (BV ve (storeV V v4.heap.size ve) v4.heap.size):=qH (storeV_box hZ hz HVC.out)
 have hYB : Below v4.heap.size v4 (storeV V v4.heap.size ve):=grown_below hVB hG (Nat.le_refl _) hVB.size
 have HO4:=qH (ho.read.below hYB)
 have HYB:=qH hYB
 have HB4 : Hid (Below W.heap.size W (storeV V v4.heap.size ve)):=qH ((HB3.out.trans (hb.mono HB3.out.size)).trans (hYB.mono (HB3.out.trans (hb.mono HB3.out.size)).size))
 clear hb ho hA hz hZ hG hYB hVB
 go_wp2_with (first | (refine list_storeV HZ.out HZL.out HVC.out 48 _ _ rfl rfl rfl rfl (by kernel_rfl) ?_;simp only [pN]) | (refine list_value rfl (HAL.out _ _ rfl) ?_;simp only [pS,List.set]) | (refine list_loadV HX.out 48 _ rfl rfl rfl (by kernel_rfl) ?_;simp only [pS,List.set]))
 refine (HIM.out _ _ HO4.out (HEW.out _ HB4.out)).mono ?_
 generalize storeV V v4.heap.size ve = Y at *
 rintro e v5 ⟨ga,gc,rfl,hgr,hb⟩
 have HGR:=qH hgr
 have HYS : Hid (v4.heap.size <= Y.heap.size):=qH HYB.out.size
 have HGQ : Hid (∀ q,(Value.slice ga D.length gc).ownBlock = some q -> v4.heap.size <= q):=qH (fun q hq => Nat.le_trans HYS.out (hgr.lt q hq).1)
 have HW5:=qH (own_below HWR.out (HV34.out.2.trans ((HYB.out.trans (hb.mono HYB.out.size)).mono HV34.out.1)))
 have HB5:=qH (HB4.out.trans (hb.mono HB4.out.size))
 have HO5:=qH (HO4.out.below hb)
 have HX5:=qH (HX.out.below hb)
 have HN5:=qH (HYB.out.trans (hb.mono HYB.out.size))
 clear hb hgr HO4 HX HZ HAL HWR
 go_wp2_with fail
 refine (eqPairS_same ga wa D.length gc wc D v5 (PwR.own HGR.out) (PwR.own HW5.out) HDL.out).mono ?_
 rintro e v6 ⟨rfl,hb⟩
 have HG6:=qH (own_below HGR.out hb)
 have HW6:=qH (own_below HW5.out hb)
 have HB6:=qH (HB5.out.trans (hb.mono HB5.out.size))
 have HO6:=qH (HO5.out.below hb)
 have HX6:=qH (HX5.out.below hb)
 have HN6:=qH (HN5.out.trans (hb.mono HN5.out.size))
 clear hb HGR HW5 HB5 HO5 HX5 HN5
 obtain ⟨hq,hhq⟩ : ∃ hq,hq = v4.heap.size:=⟨_,rfl⟩
 rw [<- hhq] at HX6 ⊢
 have HHQ:=qH hhq
 clear hhq
 have hmx : Tryz.prog.follows .mixedOrders = true:=by kernel_rfl
 have HSS : Hid (∀ u,Below v6.heap.size v6 u -> (BV va u w.heap.size /\ BV ve u hq)):=qH (fun u hu => ⟨HA.out.below (HB6.out.trans (hu.mono HB6.out.size)),HX6.out.below hu⟩)
 go_wp2_with fail
 refine TillZ.region (t:=3) hmx (fun u => BV va u w.heap.size /\ BV ve u hq) ?_
 have HU0 : Hid (Below v6.heap.size v6 v6.drew):=qH (Below.refl _ _).drew
 have hS0:=HSS.out _ HU0.out
 refine TillZ.take4 (i:=0) (v:=ve) rfl rfl rfl (by kernel_rfl) hS0 (fun u hu => exec_loadV hu.2 48 _ rfl rfl (by kernel_rfl)) ?_
 simp only [pS,List.set,zT,zZ]
 generalize hu0 : v6.drew = u0 at *
 clear hu0
 refine TillZ.value (i:=1) (v:=va) (by kernel_rfl) rfl rfl rfl (exec_loadV hS0.1 34 _ rfl rfl (by kernel_rfl)) hS0 ?_
 simp only [pS,List.set,zT,zZ,zU]
 clear hS0
 refine TillZ.call (i:=2) (f:=6) (args:=#[va]) (by kernel_rfl) rfl rfl rfl (by go_simp) ?_
 refine Calls.mono (toVaultV (HRW.out _ (HB6.out.trans (HU0.out.mono HB6.out.size))) HG.out) ?_
 rintro e v7 ⟨vd,rfl,ho,hb⟩
 have HU7:=qH (HU0.out.trans (hb.mono HU0.out.size))
 have HO7:=qH ho.read
 clear ho hb
 refine ⟨_,rfl,HSS.out _ HU7.out,?_⟩
 simp only [pS,List.set,zT,zZ,zU]
 refine hand_call (f:=9) (args:=#[ve,vd]) (by kernel_rfl) rfl rfl (by go_simp) ?_
 refine Calls.mono (eqVaultV (HO6.out.below HU7.out) HO7.out HG.out) ?_
 rintro e v8 ⟨rfl,hb⟩
 have HU8:=qH (HU7.out.trans (hb.mono HU7.out.size))
 clear hb
 refine ⟨_,rfl,?_⟩
 simp only [pS,List.set,zT,zZ,zU]
 refine TillZ.any_value (i:=4) (v:=.bool false) (by kernel_rfl) rfl rfl (by go_simp) ?_
 simp only [pS,List.set,zT,zZ,zU]
 refine TillZ.any_done (by kernel_rfl) ?_ _
 have HG8:=qH (own_below HG6.out HU8.out)
 have HW8:=qH (own_below HW6.out HU8.out)
 have HB8:=qH (HB6.out.trans (HU8.out.mono HB6.out.size))
 have HX8:=qH (HX6.out.below HU8.out)
 have HN8:=qH (HN6.out.trans (HU8.out.mono HN6.out.size))
 clear HG6 HW6 HB6 HO6 HX6 HN6 HU8 HU7 HO7 HU0 HSS
 go_wp2_with (refine list_loadV HX8.out 48 _ rfl rfl rfl (by kernel_rfl) ?_;simp only [pS,List.set])
 refine (markVaultV HVN.out HN8.out HG.out).mono ?_
 rintro e v9 ⟨mr,rfl,hmr,hsp⟩
 have HW9:=qH (hsp.row _ _ _ _ _ _ HW8.out (fun q hq => .inl (HWQ.out q hq)))
 have HG9:=qH (hsp.row _ _ _ _ _ _ HG8.out (fun q hq => .inr (HGQ.out q hq)))
 have HB9:=qH (hsp.low _ _ HB3.out.size HB8.out.size HB8.out)
 have HA9 : Hid (BV va v9 w.heap.size):=qH (by
  obtain ⟨cs,h1,h2,h3⟩:=HA.out.below HB8.out
  exact ⟨cs,h1,h2,hsp.box _ _ h3 (.inl (by have:=HA.out;obtain ⟨_,_,_,h4⟩:=this;exact Nat.lt_of_lt_of_le h4.lt HB3.out.size))⟩)
 clear hsp HW8 HG8 HB8 HX8
 go_wp2_with fail
 refine (eqPairS_same ga wa D.length gc wc D v9 (PwR.own HG9.out) (PwR.own HW9.out) HDL.out).mono ?_
 rintro e v10 ⟨rfl,hb⟩
 have HG10:=qH (own_below HG9.out hb)
 have HW10:=qH (own_below HW9.out hb)
 have HB10:=qH (HB9.out.trans (hb.mono HB9.out.size))
 have HA10:=qH (HA9.out.below hb)
 clear hb HG9 HW9 HB9 HA9
 obtain ⟨mq,hmq⟩ : ∃ mq : Int,((1 : Nat) : Int) + 2 * (D.length : Int) = mq:=⟨_,rfl⟩
 have hmq0 : ¬ mq < 0:=by omega
 have HMQ:=qH hmq
 clear hmq
 go_wp2_with fail
 refine (markPairS_any ga _ D.length gc D 1 v10 HG10.out HDL.out (by omega) (by omega)).mono ?_
 rintro e v11 ⟨he,hmk,hgr⟩
 rw [HMQ.out] at he
 subst he
 have hdj : Disj (.slice wa D.length wc) (.slice ga D.length gc):=fun q h1 h2 => by have:=HWQ.out q h1;have:=HGQ.out q h2;have:=HV34.out.1;omega
 have HW11:=qH (own_grown HW10.out hgr hdj)
 have HB11 : Hid (Below W.heap.size W v11):=qH (HB10.out.grown hgr HB10.out.size (fun q hq => Nat.le_trans HB3.out.size (Nat.le_trans HV34.out.1 (HGQ.out q hq))))
 have HA11 : Hid (BV va v11 w.heap.size):=qH (HA10.out.grown hgr (fun e => by
  have h1:=HGQ.out _ e.symm
  have h2:=HV34.out.1
  have h3:=HB3.out.size
  obtain ⟨_,_,_,h4⟩:=HA.out
  have h5:=h4.lt
  omega))
 have HMK:=qH hmk
 clear hgr hdj hmk HW10 HB10 HA10 HG10
 go_wp2_with fail
 refine (heldPairS_any ga D.length gc 1 v11 (PwR.own HMK.out) HDL.out (by omega) (by omega)).mono ?_
 rintro e v12 ⟨he,hb⟩
 rw [HMQ.out] at he
 subst he
 have HM12:=qH (own_below HMK.out hb)
 have HW12:=qH (own_below HW11.out hb)
 have HB12:=qH (HB11.out.trans (hb.mono HB11.out.size))
 have HA12:=qH (HA11.out.below hb)
 clear hb HMK HW11 HB11 HA11
 go_wp2_with (refine list_loadV HA12.out 34 _ rfl rfl rfl (by kernel_rfl) ?_;simp only [pS,List.set])
 refine (toVaultV (HRW.out _ HB12.out) HG.out).mono ?_
 rintro e v13 ⟨vc,rfl,ho,hb⟩
 have HM13:=qH (own_below HM12.out hb)
 have HW13:=qH (own_below HW12.out hb)
 have HB13:=qH (HB12.out.trans (hb.mono HB12.out.size))
 have HO13:=qH ho.read
 clear hb ho HM12 HW12 HB12 HA12
 go_wp2_with fail
 refine (HIM.out _ _ HO13.out (HEW.out _ HB13.out)).mono ?_
 rintro e v14 ⟨ha,hc,rfl,hhr,hb⟩
 have HM14:=qH (own_below HM13.out hb)
 have HW14:=qH (own_below HW13.out hb)
 have HB14:=qH (HB13.out.trans (hb.mono HB13.out.size))
 have HH14:=qH hhr
 clear hb hhr HM13 HW13 HB13 HO13
 go_wp2_with fail
 refine (eqPairS_same ha wa D.length hc wc D v14 (PwR.own HH14.out) (PwR.own HW14.out) HDL.out).mono ?_
 rintro e v15 ⟨rfl,hb⟩
 have HM15:=qH (own_below HM14.out hb)
 have HB15:=qH (HB14.out.trans (hb.mono HB14.out.size))
 clear hb HM14 HW14 HB14 HH14
 go_wp2_with fail
 refine (heldPairS_any ga D.length gc 1 v15 (PwR.own HM15.out) HDL.out (by omega) (by omega)).mono ?_
 rintro e v16 ⟨he,hb⟩
 rw [HMQ.out] at he
 subst he
 have HB16:=qH (HB15.out.trans (hb.mono HB15.out.size))
 clear hb HM15 HB15
 go_wp2_with fail
 go_ret
 exact ⟨rfl,HB0.out.trans (HB16.out.mono HB0.out.size)⟩
/-! ### THE ROW's STEP -/
theorem contract (H : Type) (enc : TypeId × Value -> H) (W : World) (base : Nat) (args : Array Value) (ds gs : List (DataW H)) (before : List MemPlace)
 (hval0 : ∀ (j : Nat) t v,Tryz.f3.params[j]? = some t -> args[j]? = some v -> Value.okWide Tryz.prog W .any base t v)
 (hW : DataW.Whole enc Tryz.prog Tryz.f3.params.toList Rows.fnExactDataSpec.vars false W args.toList ds gs before) (hL : laidMetH Tryz.prog laidL W) :
 Calls Tryz.prog 3 args W fun e W' => ∃ v,e = .returned v /\ Rows.fnExactDataSpec.post enc Tryz.prog Tryz.f3 false true false false W args v W':=by
 have hval : ∀ (j : Nat) t v,Tryz.f3.params[j]? = some t -> args[j]? = some v -> Value.okWide Tryz.prog W .any base t v:=hval0
 have hW':=hW
 obtain ⟨p,q,hA0,hV,rfl,hfz,hnd⟩:=hW
 have hA : DataW.TrodAll enc Tryz.prog W 0 (fun _ => true) true Tryz.f3.params.toList args.toList ds p:=hA0
 rw [Tryz.params3] at hA hval
 obtain ⟨v0,vs0,d0,ds0,p0,q_0,hargs0,rfl,rfl,h0,r0⟩:=trodAll_cons hA
 obtain ⟨v1,vs1,d1,ds1,p1,q_1,hargs1,rfl,rfl,h1,r1⟩:=trodAll_cons r0
 obtain ⟨rfl,rfl,rfl⟩:=trodAll_nil r1
 obtain rfl : args = #[v0,v1]:=by cases args;simp_all
 obtain ⟨rfl,rfl⟩:=trodVars_none hV
 have k0:=h0
 have lt0 : ∀ x ∈ p0,x.block < W.heap.size:=by obtain ⟨m,hm⟩:=k0;exact DataW.trod_lt m _ _ _ hm
 obtain ⟨ds,dt,c0,c1,c2,c3,a1,n1,a3,a2,n2,a4,ts,is,op,ma,g1,gn,g2,gs,no,on,nd,mn,r1,rn,r2,rs,rfl,hR,_⟩:=vault_open (hval 0 34 v0 rfl rfl) h0
 obtain ⟨bb,rfl,rfl,rfl,wbb⟩:=open_string Tryz.underlying9 (hval 1 9 v1 rfl rfl) h1
 clear hA0 hval0
 simp only [List.append_nil] at hW'
 refine (walk ds dt c0 c1 c2 c3 a1 n1 a3 a2 n2 a4 ts is op ma g1 gn g2 gs no on nd mn r1 rn r2 rs bb wbb W hR (et_of_laid hL)).mono fun e W' ⟨he,hg⟩ => ?_
 subst he
 exact ⟨_,rfl,_,_,_,[],_,[],hW',trodAll_mk1 (shut_bool Tryz.underlying4 _),(trodAll_cons_mk (Below.trod laidOut (by kernel_rfl) (of_decide_eq_true (by kernel_rfl)) k0 hg lt0) (trodAll_cons_mk (shut_string Tryz.underlying9 wbb) trodAll_mk0)),rfl,hg.frame _,fun h => by cases h⟩
theorem reads (os : Os) {H : Type} (enc : TypeId × Value -> H) : ∃ places,DataW.whole enc Tryz.prog ((laidWorld os).forCall (fun _ _ => 0) ⟨#[],#[Value.agg #[Value.string ByteArray.empty,Value.string ByteArray.empty,Value.int .i64 0,Value.int .i64 0,Value.int .i64 0,Value.int .i64 0,Value.slice none 0 0,Value.slice none 0 0,Value.bool false,Value.string ByteArray.empty,Value.slice none 0 0,Value.int .i64 0,Value.bool false,Value.int .i64 0,Value.int .i64 0,Value.slice none 0 0],Value.string ByteArray.empty],[]⟩).memory Tryz.f3.params.toList Rows.fnExactDataSpec.vars false (#[Value.agg #[Value.string ByteArray.empty,Value.string ByteArray.empty,Value.int .i64 0,Value.int .i64 0,Value.int .i64 0,Value.int .i64 0,Value.slice none 0 0,Value.slice none 0 0,Value.bool false,Value.string ByteArray.empty,Value.slice none 0 0,Value.int .i64 0,Value.bool false,Value.int .i64 0,Value.int .i64 0,Value.slice none 0 0],Value.string ByteArray.empty] : Array Value).toList 8 = some ([.agg [.agg [.lit (.string []),.lit (.string [])],.agg [.agg [.lit (.int .i64 0),.lit (.int .i64 0),.lit (.int .i64 0),.lit (.int .i64 0)],.nil,.nil],.lit (.bool false),.lit (.string []),.nil,.lit (.int .i64 0),.agg [.lit (.bool false),.lit (.int .i64 0),.lit (.int .i64 0),.nil]],.lit (.string [])],[],places) :=
 ⟨[],by kernel_rfl⟩
theorem lifted (os : Os) (started : os.Started) (H : Type) (enc : TypeId × Value -> H) (F : Stop.Interp) :
 ReturnsInHanded {} Tryz.checked os 3 .any ((OpenSpec.ofChange Rows.fnExactDataSpec).preRow enc Tryz.prog Tryz.f3 Rows.fnExactDataRow.domain false Rows.fnExactDataRow.laid) (((OpenSpec.ofChange Rows.fnExactDataSpec).at F).post enc Tryz.prog Tryz.f3 false true false false):=by
 obtain ⟨places,hx⟩:=reads os enc
 refine returnsInHanded_of_row (C:=Tryz.checked) (s:=OpenSpec.ofChange Rows.fnExactDataSpec) door_own started (by kernel_rfl) Tryz.func3
  (witness_row_at (enc:=enc) (C:=Tryz.checked) false (laidWorld os) #[Value.agg #[Value.string ByteArray.empty,Value.string ByteArray.empty,Value.int .i64 0,Value.int .i64 0,Value.int .i64 0,Value.int .i64 0,Value.slice none 0 0,Value.slice none 0 0,Value.bool false,Value.string ByteArray.empty,Value.slice none 0 0,Value.int .i64 0,Value.bool false,Value.int .i64 0,Value.int .i64 0,Value.slice none 0 0],Value.string ByteArray.empty] rfl (by kernel_rfl) (by kernel_rfl) (by kernel_rfl)
   (OpenSpec.preRow_of_cond 8 hx (by kernel_rfl) (fun k hk => by cases hk) (by kernel_rfl) (laidWorld_met os _))) ?_
 intro W base args ds gs before hval hW _ _ _ hL _ _
 exact contract H enc W base args ds gs before hval hW hL
theorem j0 : (Rows.fnExactDataRow.wf (OpenSpec.ofChange (OpenSpec.ofChange Rows.fnExactDataSpec).bare)) = true:=by kernel_rfl
theorem j1 : (laidOutB Tryz.pinned.checked.prog) = true:=by kernel_rfl
theorem j2 : (mapsRowed Tryz.pinned.checked.prog) = true:=by kernel_rfl
theorem j3 : (Tryz.f3.params.all (Tryz.pinned.checked.prog.readableRec ·)) = true:=by kernel_rfl
theorem j4 : (namedTie Tryz.pinned.checked.prog Rows.fnExactDataRow.named (OpenSpec.ofChange Rows.fnExactDataSpec).bare.vars) = true:=by kernel_rfl
theorem j5 : (Rows.fnExactDataRow.stops == []) = true:=by kernel_rfl
theorem j6 : (Tryz.pinned.checked.prog.stops == []) = true:=by kernel_rfl
theorem j7 : (Rows.fnExactDataRow.knobs == []) = true:=by kernel_rfl
theorem j8 : (Tryz.pinned.checked.prog.stopKnobs == []) = true:=by kernel_rfl
theorem j9 : (Rows.fnExactDataRow.inPlace == Tryz.pinned.checked.prog.inPlace 3) = true:=by kernel_rfl
theorem j10 : (Rows.fnExactDataRow.unfollowed == Tryz.pinned.checked.prog.unfollowed 3) = true:=by kernel_rfl
theorem j11 : (Rows.fnExactDataRow.recurses == Tryz.pinned.checked.prog.recurses 3) = true:=by kernel_rfl
theorem j12 : (Rows.fnExactDataRow.named == Tryz.pinned.checked.prog.varsNamed 3) = true:=by kernel_rfl
theorem j13 : (Rows.fnExactDataRow.maps == (Tryz.f3.params.toList ++ (OpenSpec.ofChange Rows.fnExactDataSpec).bare.plain.varTypes Tryz.pinned.checked.prog).any (Tryz.pinned.checked.prog.mapsRec ·)) = true:=by kernel_rfl
theorem j14 : (Rows.fnExactDataRow.ifaces == (Tryz.f3.params.toList ++ (OpenSpec.ofChange Rows.fnExactDataSpec).bare.plain.varTypes Tryz.pinned.checked.prog).any (Tryz.pinned.checked.prog.ifacesRec ·)) = true:=by kernel_rfl
theorem j15 : (Rows.fnExactDataRow.mapsOut == Tryz.pinned.checked.prog.mapsAmong Tryz.f3.resultTypes.toList) = true:=by kernel_rfl
theorem j16 : (Rows.fnExactDataRow.loops == (Tryz.f3.params.toList ++ (OpenSpec.ofChange Rows.fnExactDataSpec).bare.plain.varTypes Tryz.pinned.checked.prog).any (Tryz.pinned.checked.prog.loopsFrom ·)) = true:=by kernel_rfl
theorem j17 : (Rows.fnExactDataRow.wideKeys == (Tryz.f3.params.toList ++ (OpenSpec.ofChange Rows.fnExactDataSpec).bare.plain.varTypes Tryz.pinned.checked.prog ++ Tryz.f3.resultTypes.toList).any (Tryz.pinned.checked.prog.wideKeysFrom ·)) = true:=by kernel_rfl
theorem j18 : ((OpenSpec.ofChange Rows.fnExactDataSpec).bare.vars.all (Tryz.pinned.checked.prog.varReadable ·)) = true:=by kernel_rfl
theorem j19 : (Tryz.f3.resultTypes.all (fun t => Tryz.pinned.checked.prog.readableRec t && decide (t < Tryz.pinned.checked.prog.types.size))) = true:=by kernel_rfl
theorem j20 : (Rows.fnExactDataRow.ifacesOut == Tryz.f3.resultTypes.toList.any (Tryz.pinned.checked.prog.ifacesRec ·)) = true:=by kernel_rfl
theorem j21 : (Rows.fnExactDataRow.loopsOut == Tryz.f3.resultTypes.toList.any (Tryz.pinned.checked.prog.loopsFrom ·)) = true:=by kernel_rfl
theorem j22 : (Rows.fnExactDataRow.plainKeys == Tryz.pinned.checked.prog.plainKeys) = true:=by kernel_rfl
theorem j23 : (Rows.fnExactDataRow.shortTexts.isNone) = true:=by kernel_rfl
theorem j24 : (Tryz.pinned.checked.prog.stopsHeard) = true:=by kernel_rfl
theorem j25 : (Tryz.pinned.checked.prog.mayEnter) = true:=by kernel_rfl
theorem j26 : (Rows.fnExactDataRow.lifted == Tryz.pinned.checked.prog.liftsFinal) = true:=by kernel_rfl
theorem j27 : (Tryz.pinned.checked.prog.make == some Rows.fnExactDataRow.make) = true:=by kernel_rfl
theorem j28 : (Rows.fnExactDataRow.kinds == (if Rows.fnExactDataRow.domain.isEmpty then [] else Tryz.f3.params.toList.map fun t => match Tryz.pinned.checked.prog.underlying t with | some (.int k) => some k | _ => none)) = true:=by kernel_rfl
theorem j29 : (Rows.fnExactDataRow.pinned == Rows.fnExactDataRow.pinnedBy) = true:=by kernel_rfl
theorem j30 : (Rows.fnExactDataRow.veiled == (Tryz.f3.params.toList ++ (OpenSpec.ofChange Rows.fnExactDataSpec).bare.plain.varTypes Tryz.pinned.checked.prog ++ Tryz.f3.resultTypes.toList).any (Tryz.pinned.checked.prog.veiledRec ·)) = true:=by kernel_rfl
theorem j31 : (Rows.fnExactDataRow.veiledFits Tryz.pinned.checked.prog Tryz.f3.params.toList (Tryz.f3.params.toList ++ (OpenSpec.ofChange Rows.fnExactDataSpec).bare.plain.varTypes Tryz.pinned.checked.prog ++ Tryz.f3.resultTypes.toList)) = true:=by kernel_rfl
theorem closed : joinedFacts Tryz.pinned.checked.prog 3 Tryz.f3 (OpenSpec.ofChange Rows.fnExactDataSpec).bare Rows.fnExactDataRow = true:=by
 unfold joinedFacts
 exact (Bool.and_eq_true_iff.2 ⟨(Bool.and_eq_true_iff.2 ⟨(Bool.and_eq_true_iff.2 ⟨(Bool.and_eq_true_iff.2 ⟨(Bool.and_eq_true_iff.2 ⟨(Bool.and_eq_true_iff.2 ⟨(Bool.and_eq_true_iff.2 ⟨(Bool.and_eq_true_iff.2 ⟨(Bool.and_eq_true_iff.2 ⟨(Bool.and_eq_true_iff.2 ⟨(Bool.and_eq_true_iff.2 ⟨(Bool.and_eq_true_iff.2 ⟨(Bool.and_eq_true_iff.2 ⟨(Bool.and_eq_true_iff.2 ⟨(Bool.and_eq_true_iff.2 ⟨(Bool.and_eq_true_iff.2 ⟨(Bool.and_eq_true_iff.2 ⟨(Bool.and_eq_true_iff.2 ⟨(Bool.and_eq_true_iff.2 ⟨(Bool.and_eq_true_iff.2 ⟨(Bool.and_eq_true_iff.2 ⟨(Bool.and_eq_true_iff.2 ⟨(Bool.and_eq_true_iff.2 ⟨(Bool.and_eq_true_iff.2 ⟨(Bool.and_eq_true_iff.2 ⟨(Bool.and_eq_true_iff.2 ⟨(Bool.and_eq_true_iff.2 ⟨(Bool.and_eq_true_iff.2 ⟨(Bool.and_eq_true_iff.2 ⟨(Bool.and_eq_true_iff.2 ⟨(Bool.and_eq_true_iff.2 ⟨j0,j1⟩),j2⟩),j3⟩),j4⟩),j5⟩),j6⟩),j7⟩),j8⟩),j9⟩),j10⟩),j11⟩),j12⟩),j13⟩),j14⟩),j15⟩),j16⟩),j17⟩),j18⟩),j19⟩),j20⟩),j21⟩),j22⟩),j23⟩),j24⟩),j25⟩),j26⟩),j27⟩),j28⟩),j29⟩),j30⟩),j31⟩)
theorem said : Rows.FnExactDataSaid :=
 OpenClaim.holds_of_cond 3 Tryz.f3 rfl rfl rfl rfl rfl rfl rfl ⟨rfl,rfl,rfl,rfl,rfl⟩ rfl rfl rfl rfl rfl (by kernel_rfl) Tryz.func3 closed
  (of_decide_eq_true (by kernel_rfl)) (by unfold Func.isWrapper;first | (rw [if_pos (by decide +kernel)];kernel_rfl) | (rw [if_neg (by decide +kernel)];exact ⟨rfl,rfl⟩))
  (fun os started H enc _ F => by rw [OpenClaim.pre_eq_preRow];exact lifted os started H enc F)
theorem plain (f : FuncId) (fn : Func) (hf : Tryz.pinned.checked.prog.funcNamed "loop.example/g00839/laws.FnExactData" = some f) (hfn : Tryz.pinned.checked.prog.funcs[f]? = some fn) :
 true = Tryz.pinned.checked.prog.looks [] /\ ∀ (j : Nat) t,fn.params[j]? = some t -> Tryz.pinned.checked.prog.wantsStandIn t = false:=by
 obtain rfl : f = 3 := Option.some.inj ((show Tryz.prog.funcNamed "loop.example/g00839/laws.FnExactData" = some 3 by kernel_rfl).symm.trans hf) |>.symm
 obtain rfl : fn = Tryz.f3:=(Option.some.inj (Tryz.func3.symm.trans hfn)).symm
 refine ⟨by kernel_rfl,fun j t ht => ?_⟩
 rw [Tryz.params3] at ht
 have h : t = 34 ∨ t = 9:=by simpa using Array.mem_of_getElem? ht
 rcases h with rfl | rfl
 · exact (show Tryz.prog.wantsStandIn 34 = false by kernel_rfl)
 · exact (show Tryz.prog.wantsStandIn 9 = false by kernel_rfl)
theorem proved : Rows.FnExactDataCardSaid :=
 Claim7.holds_tied_plain_at .later [] _ _ _ _ said (fun _ h => by cases h) (by kernel_rfl) (fun _ h => by cases h) fnExactData_row_tie rfl ⟨rfl,rfl⟩ (by kernel_rfl) rfl plain (by kernel_rfl)
end Go.Proofs.YthkbcjnbmciolaaGreatDoor.fnExactData
