/- The statement, proved: at every argument that can be read the law answers true and leaves its arguments as they were. -/
import Derived.SevenTiedAt
import Derived.WalkKit
import Derived.ProofKit
import Derived.OpenShut
import Derived.ShutString
import Derived.ChangeOld
import Derived.Below
import Derived.Carry
import Derived.Test.YtgafndgnmadcfaaGreatDoorQV17
import Derived.Test.YtgafndgnmadcfaaGreatDoorQV37
import Derived.Test.YtgafndgnmadcfaaGreatDoorQV38
import Derived.Test.YtgafndgnmadcfaaGreatDoorQV00
namespace Go.Proofs.YtgafndgnmadcfaaGreatDoor.fnExactVaultRight
open Go.ChangeShapes Go.WideShapes Go.ChangeAt Go.RowKit IRow
open Go.ChangeMaps (open_string shut_string)
set_option linter.unusedVariables false
theorem laidOut : laidOutB Tryz.prog = true:=by kernel_rfl
open G MGet
/-! ### The walk. -/
set_option maxRecDepth 100000 in
set_option maxHeartbeats 16000000 in
theorem walk (ds : ByteArray) (dt : ByteArray) (c0 : Int) (c1 : Int) (c2 : Int) (c3 : Int) (a1 : Option Addr) (n1 : Nat) (a3 : Nat) (a2 : Option Addr) (n2 : Nat) (a4 : Nat) (ts : List Tm) (is : List Im) (op : Bool) (ma : ByteArray) (g1 : Option Addr) (gn : Nat) (g2 : Nat) (gs : List Ev) (no : Int) (on : Bool) (nd : Int) (mn : Int) (r1 : Option Addr) (rn : Nat) (r2 : Nat) (rs : List Ev) (w : World) (hR : VtR w ds dt a1 n1 a3 a2 n2 a4 ts is ma g1 gn g2 gs r1 rn r2 rs) (hg : ET w) :
   Calls Tryz.prog 3 #[.agg #[.string ds,.string dt,.int .i64 c0,.int .i64 c1,.int .i64 c2,.int .i64 c3,.slice a1 n1 a3,.slice a2 n2 a4,.bool op,.string ma,.slice g1 gn g2,.int .i64 no,.bool on,.int .i64 nd,.int .i64 mn,.slice r1 rn r2]] w fun e w' => e = .returned (.bool true) /\ Below w.heap.size w w':=by
 obtain ⟨p,hin,hv⟩:=vault_named (c0:=c0) (c1:=c1) (c2:=c2) (c3:=c3) (op:=op) (no:=no) (on:=on) (nd:=nd) (mn:=mn) hR
 clear hR
 generalize hva : (Value.agg #[.string ds,.string dt,.int .i64 c0,.int .i64 c1,.int .i64 c2,.int .i64 c3,.slice a1 n1 a3,.slice a2 n2 a4,.bool op,.string ma,.slice g1 gn g2,.int .i64 no,.bool on,.int .i64 nd,.int .i64 mn,.slice r1 rn r2]) = va at hv ⊢
 clear hva
 have HI:=qH hin
 have HV:=qH hv
 clear hin hv
 obtain ⟨W,hW⟩ : ∃ W,W = w.alloc (.cells (cellsV va) 34):=⟨_,rfl⟩
 have HB0 : Hid (Below w.heap.size w W):=qH (by rw [hW];exact (Below.refl _ _).alloc (Nat.le_refl _) _)
 have HA : Hid (BV va W w.heap.size):=qH (by rw [hW];exact BV.made w HV.out.cells _)
 have HRW : Hid (∀ u : World,Below W.heap.size W u -> VV p va u):=qH (fun u hu => HV.out.below (HB0.out.trans (hu.mono HB0.out.size)))
 have HEW : Hid (∀ u : World,Below W.heap.size W u -> ET u):=qH (fun u hu => hg.below (HB0.out.trans (hu.mono HB0.out.size)))
 go_enter Tryz.func3,Tryz.ntmps3
 go_upto_region 1 with (refine list_value rfl (exec_box (v:=va) 34 _ rfl rfl) ?_;simp only [pS,pN,List.set,List.getElem_toArray,List.getElem_cons_zero,List.getElem_cons_succ])
 rw [<- hW]
 clear hW
 go_wp2_with (refine list_loadV HA.out 34 _ rfl rfl rfl (by kernel_rfl) ?_;simp only [pS,pN,List.set,List.getElem_toArray,List.getElem_cons_zero,List.getElem_cons_succ])
 refine (szVaultV (HRW.out _ (Below.refl _ _)) HI.out).mono ?_
 rintro e v1 ⟨r,rfl,hr,hb⟩
 have HB1 : Hid (Below W.heap.size W v1):=qH hb
 clear hb
 rcases hr with rfl | ⟨rr0,rr1,hgd⟩
 · go_wp2_with fail
   go_ret
   exact ⟨rfl,HB0.out.trans (HB1.out.mono HB0.out.size)⟩
 have hnn : ¬ r < 0:=by omega
 have HG:=qH hgd
 clear hgd
 go_wp2_with (refine list_loadV (HA.out.below HB1.out) 34 _ rfl rfl rfl (by kernel_rfl) ?_;simp only [pS,pN,List.set,List.getElem_toArray,List.getElem_cons_zero,List.getElem_cons_succ])
 refine (toVaultV (HRW.out _ HB1.out) HG.out).mono ?_
 rintro e v2 ⟨vb,rfl,ho,hb⟩
 have HB2:=qH (HB1.out.trans (hb.mono HB1.out.size))
 have HO2:=qH ho.read
 clear hb ho
 go_wp2_with fail
 refine (specVaultRightV HO2.out HG.out).mono ?_
 rintro e v3 ⟨rfl,hb⟩
 have HB3:=qH (HB2.out.trans (hb.mono HB2.out.size))
 clear hb HO2
 have HIM : Hid (∀ (u : World) (v : Value),VV p v u -> ET u -> Calls Tryz.prog 10 #[v] u fun e u' => e = .returned (.bool p.right) /\ Below u.heap.size u u'):=qH (fun u v h he => implVaultRightV h HG.out he)
 generalize p.right = z at *
 go_wp2_with (refine list_loadV (HA.out.below HB3.out) 34 _ rfl rfl rfl (by kernel_rfl) ?_;simp only [pS,pN,List.set,List.getElem_toArray,List.getElem_cons_zero,List.getElem_cons_succ])
 refine (toVaultV (HRW.out _ HB3.out) HG.out).mono ?_
 rintro e v4 ⟨ve,rfl,ho,hb⟩
 obtain ⟨V,hA,⟨zs,hz,hZ⟩,hVB⟩:=allocV v4
 have HAL:=qH hA
 have HZ:=qH hZ
 have HZL:=qH hz
 have HVC:=qH ho.read.cells
 have hG:=storeV_grown V v4.heap.size ve
 have HX : Hid (BV ve (storeV V v4.heap.size ve) v4.heap.size):=qH (storeV_box hZ hz HVC.out)
 have hYB : Below v4.heap.size v4 (storeV V v4.heap.size ve):=grown_below hVB hG (Nat.le_refl _) hVB.size
 have HO4:=qH (ho.read.below hYB)
 have HB4 : Hid (Below W.heap.size W (storeV V v4.heap.size ve)):=qH ((HB3.out.trans (hb.mono HB3.out.size)).trans (hYB.mono (HB3.out.trans (hb.mono HB3.out.size)).size))
 clear hb ho hA hz hZ hG hYB hVB
 go_wp2_with (first | (refine list_storeV HZ.out HZL.out HVC.out 47 _ _ rfl rfl rfl rfl (by kernel_rfl) ?_;simp only [pS,pN,List.set,List.getElem_toArray,List.getElem_cons_zero,List.getElem_cons_succ]) | (refine list_value rfl (HAL.out _ _ rfl) ?_;simp only [pS,pN,List.set,List.getElem_toArray,List.getElem_cons_zero,List.getElem_cons_succ]) | (refine list_loadV HX.out 47 _ rfl rfl rfl (by kernel_rfl) ?_;simp only [pS,pN,List.set,List.getElem_toArray,List.getElem_cons_zero,List.getElem_cons_succ]))
 refine (HIM.out _ _ HO4.out (HEW.out _ HB4.out)).mono ?_
 rintro e v5 ⟨rfl,hb⟩
 have HB5:=qH (HB4.out.trans (hb.mono HB4.out.size))
 have HO5:=qH (HO4.out.below hb)
 have HX5:=qH (HX.out.below hb)
 clear hb HO4 HX HB4 HB3 HB2 HB1 HZ HAL HIM
 generalize v4.heap.size = hq at *
 have hmx : Tryz.prog.follows .mixedOrders = true:=by kernel_rfl
 have HSS : Hid (∀ u,Below v5.heap.size v5 u -> (BV va u w.heap.size /\ BV ve u hq)):=qH (fun u hu => ⟨HA.out.below (HB5.out.trans (hu.mono HB5.out.size)),HX5.out.below hu⟩)
 go_wp2_with fail
 refine TillZ.region (t:=3) hmx (fun u => BV va u w.heap.size /\ BV ve u hq) ?_
 have HU0 : Hid (Below v5.heap.size v5 v5.drew):=qH (Below.refl _ _).drew
 have hS0:=HSS.out _ HU0.out
 refine TillZ.take (i:=0) (v:=ve) rfl rfl rfl (by kernel_rfl) (by kernel_rfl) (by kernel_rfl) (by kernel_rfl) hS0 (fun u hu => exec_loadV hu.2 47 _ rfl rfl (by kernel_rfl)) ?_
 simp only [pS,pN,List.set,List.getElem_toArray,List.getElem_cons_zero,List.getElem_cons_succ]
 generalize hu0 : v5.drew = u0 at *
 clear hu0
 refine TillZ.value (i:=1) (v:=va) (by kernel_rfl) rfl rfl rfl (exec_loadV hS0.1 34 _ rfl rfl (by kernel_rfl)) hS0 ?_
 simp only [pS,pN,List.set,List.getElem_toArray,List.getElem_cons_zero,List.getElem_cons_succ]
 clear hS0
 refine TillZ.call (i:=2) (f:=9) (args:=#[va]) (by kernel_rfl) rfl rfl rfl (by go_simp) ?_
 refine Calls.mono (toVaultV (HRW.out _ (HB5.out.trans (HU0.out.mono HB5.out.size))) HG.out) ?_
 rintro e v7 ⟨vd,rfl,ho,hb⟩
 have HU7:=qH (HU0.out.trans (hb.mono HU0.out.size))
 have HO7:=qH ho.read
 clear ho hb
 refine ⟨_,rfl,HSS.out _ HU7.out,?_⟩
 simp only [pS,pN,List.set,List.getElem_toArray,List.getElem_cons_zero,List.getElem_cons_succ]
 refine hand_call (f:=11) (args:=#[ve,vd]) (by kernel_rfl) rfl rfl (by go_simp) ?_
 refine Calls.mono (eqVaultV (HO5.out.below HU7.out) HO7.out HG.out) ?_
 rintro e v8 ⟨rfl,hb⟩
 have HU8:=qH (HU7.out.trans (hb.mono HU7.out.size))
 clear hb
 refine ⟨_,rfl,?_⟩
 simp only [pS,pN,List.set,List.getElem_toArray,List.getElem_cons_zero,List.getElem_cons_succ]
 refine TillZ.any_value (i:=4) (v:=.bool false) (by kernel_rfl) rfl rfl (by go_simp) ?_
 simp only [pS,pN,List.set,List.getElem_toArray,List.getElem_cons_zero,List.getElem_cons_succ]
 refine TillZ.any_done (by kernel_rfl) ?_ _
 go_wp2_with fail
 go_ret
 exact ⟨rfl,HB0.out.trans ((HB5.out.trans (HU8.out.mono HB5.out.size)).mono HB0.out.size)⟩
/-! ### THE ROW's STEP -/
set_option maxRecDepth 100000 in
theorem contract (H : Type) (enc : TypeId × Value -> H) (W : World) (base : Nat) (args : Array Value) (ds gs : List (DataW H)) (before : List MemPlace)
   (hval0 : ∀ (j : Nat) t v,Tryz.f3.params[j]? = some t -> args[j]? = some v -> Value.okWide Tryz.prog W .any base t v)
   (hW : DataW.Whole enc Tryz.prog Tryz.f3.params.toList Rows.fnExactVaultRightSpec.vars false W args.toList ds gs before) (hL : laidMetH Tryz.prog laidL W) :
   Calls Tryz.prog 3 args W fun e W' => ∃ v,e = .returned v /\ Rows.fnExactVaultRightSpec.post enc Tryz.prog Tryz.f3 false true false false W args v W':=by
 have hval : ∀ (j : Nat) t v,Tryz.f3.params[j]? = some t -> args[j]? = some v -> Value.okWide Tryz.prog W .any base t v:=hval0
 have hW':=hW
 obtain ⟨p,q,hA0,hV,rfl,hfz,hnd⟩:=hW
 have hA : DataW.TrodAll enc Tryz.prog W 0 (fun _ => true) true Tryz.f3.params.toList args.toList ds p:=hA0
 rw [Tryz.params3] at hA hval
 obtain ⟨v0,vs0,d0,ds0,p0,q_0,hargs0,rfl,rfl,h0,r0⟩:=trodAll_cons hA
 obtain ⟨rfl,rfl,rfl⟩:=trodAll_nil r0
 obtain rfl : args = #[v0]:=by cases args;simp_all
 obtain ⟨rfl,rfl⟩:=trodVars_none hV
 have k0:=h0
 have lt0 : ∀ x ∈ p0,x.block < W.heap.size:=by obtain ⟨m,hm⟩:=k0;exact DataW.trod_lt m _ _ _ hm
 obtain ⟨ds,dt,c0,c1,c2,c3,a1,n1,a3,a2,n2,a4,ts,is,op,ma,g1,gn,g2,gs,no,on,nd,mn,r1,rn,r2,rs,rfl,hR,_⟩:=vault_open (hval 0 34 v0 rfl rfl) h0
 clear hA0 hval0
 simp only [List.append_nil] at hW'
 refine (walk ds dt c0 c1 c2 c3 a1 n1 a3 a2 n2 a4 ts is op ma g1 gn g2 gs no on nd mn r1 rn r2 rs W hR (et_of_laid hL)).mono fun e W' ⟨he,hg⟩ => ?_
 subst he
 exact ⟨_,rfl,_,_,_,[],_,[],hW',trodAll_mk1 (shut_bool Tryz.underlying4 _),(trodAll_cons_mk (Below.trod laidOut (by kernel_rfl) (of_decide_eq_true (by kernel_rfl)) k0 hg lt0) trodAll_mk0),rfl,hg.frame _,fun h => by cases h⟩
theorem reads (os : Os) {H : Type} (enc : TypeId × Value -> H) : ∃ places,DataW.whole enc Tryz.prog ((laidWorld os).forCall (fun _ _ => 0) ⟨#[],#[Value.agg #[Value.string ByteArray.empty,Value.string ByteArray.empty,Value.int .i64 0,Value.int .i64 0,Value.int .i64 0,Value.int .i64 0,Value.slice none 0 0,Value.slice none 0 0,Value.bool false,Value.string ByteArray.empty,Value.slice none 0 0,Value.int .i64 0,Value.bool false,Value.int .i64 0,Value.int .i64 0,Value.slice none 0 0]],[]⟩).memory Tryz.f3.params.toList Rows.fnExactVaultRightSpec.vars false (#[Value.agg #[Value.string ByteArray.empty,Value.string ByteArray.empty,Value.int .i64 0,Value.int .i64 0,Value.int .i64 0,Value.int .i64 0,Value.slice none 0 0,Value.slice none 0 0,Value.bool false,Value.string ByteArray.empty,Value.slice none 0 0,Value.int .i64 0,Value.bool false,Value.int .i64 0,Value.int .i64 0,Value.slice none 0 0]] : Array Value).toList 8 = some ([.agg [.agg [.lit (.string []),.lit (.string [])],.agg [.agg [.lit (.int .i64 0),.lit (.int .i64 0),.lit (.int .i64 0),.lit (.int .i64 0)],.nil,.nil],.lit (.bool false),.lit (.string []),.nil,.lit (.int .i64 0),.agg [.lit (.bool false),.lit (.int .i64 0),.lit (.int .i64 0),.nil]]],[],places) :=
 ⟨[],by kernel_rfl⟩
set_option maxRecDepth 100000 in
theorem lifted (os : Os) (started : os.Started) (H : Type) (enc : TypeId × Value -> H) (F : Stop.Interp) :
   ReturnsInHanded {} Tryz.checked os 3 .any ((OpenSpec.ofChange Rows.fnExactVaultRightSpec).preRow enc Tryz.prog Tryz.f3 Rows.fnExactVaultRightRow.domain false Rows.fnExactVaultRightRow.laid) (((OpenSpec.ofChange Rows.fnExactVaultRightSpec).at F).post enc Tryz.prog Tryz.f3 false true false false):=by
 obtain ⟨places,hx⟩:=reads os enc
 refine returnsInHanded_of_row (C:=Tryz.checked) (s:=OpenSpec.ofChange Rows.fnExactVaultRightSpec) door_own started (by kernel_rfl) Tryz.func3
   (witness_row_at (enc:=enc) (C:=Tryz.checked) false (laidWorld os) #[Value.agg #[Value.string ByteArray.empty,Value.string ByteArray.empty,Value.int .i64 0,Value.int .i64 0,Value.int .i64 0,Value.int .i64 0,Value.slice none 0 0,Value.slice none 0 0,Value.bool false,Value.string ByteArray.empty,Value.slice none 0 0,Value.int .i64 0,Value.bool false,Value.int .i64 0,Value.int .i64 0,Value.slice none 0 0]] rfl (by kernel_rfl) (by kernel_rfl) (by kernel_rfl)
     (OpenSpec.preRow_of_cond 8 hx (by kernel_rfl) (fun k hk => by cases hk) (by kernel_rfl) (laidWorld_met os _))) ?_
 intro W base args ds gs before hval hW _ _ _ hL _ _
 exact contract H enc W base args ds gs before hval hW hL
theorem j0 : (Rows.fnExactVaultRightRow.wf (OpenSpec.ofChange (OpenSpec.ofChange Rows.fnExactVaultRightSpec).bare)) = true:=by kernel_rfl
theorem j1 : (laidOutB Tryz.pinned.checked.prog) = true:=by kernel_rfl
theorem j2 : (mapsRowed Tryz.pinned.checked.prog) = true:=by kernel_rfl
theorem j3 : (Tryz.f3.params.all (Tryz.pinned.checked.prog.readableRec ·)) = true:=by kernel_rfl
theorem j4 : (namedTie Tryz.pinned.checked.prog Rows.fnExactVaultRightRow.named (OpenSpec.ofChange Rows.fnExactVaultRightSpec).bare.vars) = true:=by kernel_rfl
theorem j5 : (Rows.fnExactVaultRightRow.stops == []) = true:=by kernel_rfl
theorem j6 : (Tryz.pinned.checked.prog.stops == []) = true:=by kernel_rfl
theorem j7 : (Rows.fnExactVaultRightRow.knobs == []) = true:=by kernel_rfl
theorem j8 : (Tryz.pinned.checked.prog.stopKnobs == []) = true:=by kernel_rfl
theorem j9 : (Rows.fnExactVaultRightRow.inPlace == Tryz.pinned.checked.prog.inPlace 3) = true:=by kernel_rfl
theorem j10 : (Rows.fnExactVaultRightRow.unfollowed == Tryz.pinned.checked.prog.unfollowed 3) = true:=by kernel_rfl
theorem j11 : (Rows.fnExactVaultRightRow.recurses == Tryz.pinned.checked.prog.recurses 3) = true:=by kernel_rfl
theorem j12 : (Rows.fnExactVaultRightRow.named == Tryz.pinned.checked.prog.varsNamed 3) = true:=by kernel_rfl
theorem j13 : (Rows.fnExactVaultRightRow.maps == (Tryz.f3.params.toList ++ (OpenSpec.ofChange Rows.fnExactVaultRightSpec).bare.plain.varTypes Tryz.pinned.checked.prog).any (Tryz.pinned.checked.prog.mapsRec ·)) = true:=by kernel_rfl
theorem j14 : (Rows.fnExactVaultRightRow.ifaces == (Tryz.f3.params.toList ++ (OpenSpec.ofChange Rows.fnExactVaultRightSpec).bare.plain.varTypes Tryz.pinned.checked.prog).any (Tryz.pinned.checked.prog.ifacesRec ·)) = true:=by kernel_rfl
theorem j15 : (Rows.fnExactVaultRightRow.mapsOut == Tryz.pinned.checked.prog.mapsAmong Tryz.f3.resultTypes.toList) = true:=by kernel_rfl
theorem j16 : (Rows.fnExactVaultRightRow.loops == (Tryz.f3.params.toList ++ (OpenSpec.ofChange Rows.fnExactVaultRightSpec).bare.plain.varTypes Tryz.pinned.checked.prog).any (Tryz.pinned.checked.prog.loopsFrom ·)) = true:=by kernel_rfl
theorem j17 : (Rows.fnExactVaultRightRow.wideKeys == (Tryz.f3.params.toList ++ (OpenSpec.ofChange Rows.fnExactVaultRightSpec).bare.plain.varTypes Tryz.pinned.checked.prog ++ Tryz.f3.resultTypes.toList).any (Tryz.pinned.checked.prog.wideKeysFrom ·)) = true:=by kernel_rfl
theorem j18 : ((OpenSpec.ofChange Rows.fnExactVaultRightSpec).bare.vars.all (Tryz.pinned.checked.prog.varReadable ·)) = true:=by kernel_rfl
theorem j19 : (Tryz.f3.resultTypes.all (fun t => Tryz.pinned.checked.prog.readableRec t && decide (t < Tryz.pinned.checked.prog.types.size))) = true:=by kernel_rfl
theorem j20 : (Rows.fnExactVaultRightRow.ifacesOut == Tryz.f3.resultTypes.toList.any (Tryz.pinned.checked.prog.ifacesRec ·)) = true:=by kernel_rfl
theorem j21 : (Rows.fnExactVaultRightRow.loopsOut == Tryz.f3.resultTypes.toList.any (Tryz.pinned.checked.prog.loopsFrom ·)) = true:=by kernel_rfl
theorem j22 : (Rows.fnExactVaultRightRow.plainKeys == Tryz.pinned.checked.prog.plainKeys) = true:=by kernel_rfl
theorem j23 : (Rows.fnExactVaultRightRow.shortTexts.isNone) = true:=by kernel_rfl
theorem j24 : (Tryz.pinned.checked.prog.stopsHeard) = true:=by kernel_rfl
theorem j25 : (Tryz.pinned.checked.prog.mayEnter) = true:=by kernel_rfl
theorem j26 : (Rows.fnExactVaultRightRow.lifted == Tryz.pinned.checked.prog.liftsFinal) = true:=by kernel_rfl
theorem j27 : (Tryz.pinned.checked.prog.make == some Rows.fnExactVaultRightRow.make) = true:=by kernel_rfl
theorem j28 : (Rows.fnExactVaultRightRow.kinds == (if Rows.fnExactVaultRightRow.domain.isEmpty then [] else Tryz.f3.params.toList.map fun t => match Tryz.pinned.checked.prog.underlying t with | some (.int k) => some k | _ => none)) = true:=by kernel_rfl
theorem j29 : (Rows.fnExactVaultRightRow.pinned == Rows.fnExactVaultRightRow.pinnedBy) = true:=by kernel_rfl
theorem j30 : (Rows.fnExactVaultRightRow.veiled == (Tryz.f3.params.toList ++ (OpenSpec.ofChange Rows.fnExactVaultRightSpec).bare.plain.varTypes Tryz.pinned.checked.prog ++ Tryz.f3.resultTypes.toList).any (Tryz.pinned.checked.prog.veiledRec ·)) = true:=by kernel_rfl
theorem j31 : (Rows.fnExactVaultRightRow.veiledFits Tryz.pinned.checked.prog Tryz.f3.params.toList (Tryz.f3.params.toList ++ (OpenSpec.ofChange Rows.fnExactVaultRightSpec).bare.plain.varTypes Tryz.pinned.checked.prog ++ Tryz.f3.resultTypes.toList)) = true:=by kernel_rfl
set_option maxRecDepth 100000 in
theorem closed : joinedFacts Tryz.pinned.checked.prog 3 Tryz.f3 (OpenSpec.ofChange Rows.fnExactVaultRightSpec).bare Rows.fnExactVaultRightRow = true:=by
 unfold joinedFacts
 exact (Bool.and_eq_true_iff.2 ⟨(Bool.and_eq_true_iff.2 ⟨(Bool.and_eq_true_iff.2 ⟨(Bool.and_eq_true_iff.2 ⟨(Bool.and_eq_true_iff.2 ⟨(Bool.and_eq_true_iff.2 ⟨(Bool.and_eq_true_iff.2 ⟨(Bool.and_eq_true_iff.2 ⟨(Bool.and_eq_true_iff.2 ⟨(Bool.and_eq_true_iff.2 ⟨(Bool.and_eq_true_iff.2 ⟨(Bool.and_eq_true_iff.2 ⟨(Bool.and_eq_true_iff.2 ⟨(Bool.and_eq_true_iff.2 ⟨(Bool.and_eq_true_iff.2 ⟨(Bool.and_eq_true_iff.2 ⟨(Bool.and_eq_true_iff.2 ⟨(Bool.and_eq_true_iff.2 ⟨(Bool.and_eq_true_iff.2 ⟨(Bool.and_eq_true_iff.2 ⟨(Bool.and_eq_true_iff.2 ⟨(Bool.and_eq_true_iff.2 ⟨(Bool.and_eq_true_iff.2 ⟨(Bool.and_eq_true_iff.2 ⟨(Bool.and_eq_true_iff.2 ⟨(Bool.and_eq_true_iff.2 ⟨(Bool.and_eq_true_iff.2 ⟨(Bool.and_eq_true_iff.2 ⟨(Bool.and_eq_true_iff.2 ⟨(Bool.and_eq_true_iff.2 ⟨(Bool.and_eq_true_iff.2 ⟨j0,j1⟩),j2⟩),j3⟩),j4⟩),j5⟩),j6⟩),j7⟩),j8⟩),j9⟩),j10⟩),j11⟩),j12⟩),j13⟩),j14⟩),j15⟩),j16⟩),j17⟩),j18⟩),j19⟩),j20⟩),j21⟩),j22⟩),j23⟩),j24⟩),j25⟩),j26⟩),j27⟩),j28⟩),j29⟩),j30⟩),j31⟩)
theorem said : Rows.FnExactVaultRightSaid :=
 OpenClaim.holds_of_cond 3 Tryz.f3 rfl rfl rfl rfl rfl rfl rfl ⟨rfl,rfl,rfl,rfl,rfl⟩ rfl rfl rfl rfl rfl (by kernel_rfl) Tryz.func3 closed
   (of_decide_eq_true (by kernel_rfl)) (by unfold Func.isWrapper;first | (rw [if_pos (by decide +kernel)];kernel_rfl) | (rw [if_neg (by decide +kernel)];exact ⟨rfl,rfl⟩))
   (fun os started H enc _ F => by rw [OpenClaim.pre_eq_preRow];exact lifted os started H enc F)
theorem plain (f : FuncId) (fn : Func) (hf : Tryz.pinned.checked.prog.funcNamed "loop.example/g00839/laws.FnExactVaultRight" = some f) (hfn : Tryz.pinned.checked.prog.funcs[f]? = some fn) :
   true = Tryz.pinned.checked.prog.looks [] /\ ∀ (j : Nat) t,fn.params[j]? = some t -> Tryz.pinned.checked.prog.wantsStandIn t = false:=by
 obtain rfl : f = 3 := Option.some.inj ((show Tryz.prog.funcNamed "loop.example/g00839/laws.FnExactVaultRight" = some 3 by kernel_rfl).symm.trans hf) |>.symm
 obtain rfl : fn = Tryz.f3:=(Option.some.inj (Tryz.func3.symm.trans hfn)).symm
 refine ⟨by kernel_rfl,fun j t ht => ?_⟩
 rw [Tryz.params3] at ht
 have h : t = 34:=by simpa using Array.mem_of_getElem? ht
 subst h
 exact (show Tryz.prog.wantsStandIn 34 = false by kernel_rfl)
theorem proved : Rows.FnExactVaultRightCardSaid :=
 Claim7.holds_tied_plain_at .later [] _ _ _ _ said (fun _ h => by cases h) (by kernel_rfl) (fun _ h => by cases h) fnExactVaultRight_row_tie rfl ⟨rfl,rfl⟩ (by kernel_rfl) rfl plain (by kernel_rfl)
end Go.Proofs.YtgafndgnmadcfaaGreatDoor.fnExactVaultRight
