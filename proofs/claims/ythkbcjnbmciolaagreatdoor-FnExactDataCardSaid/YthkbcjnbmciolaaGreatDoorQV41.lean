/- Used by the law. -/
import Derived.Test.YthkbcjnbmciolaaGreatDoorCards
import Derived.Test.YthkbcjnbmciolaaGreatDoorTie
import Derived.LaidHandle
import Derived.Deep.DeepHandedRow
import Derived.Test.YthkbcjnbmciolaaGreatDoorQV40
set_option maxRecDepth 100000
set_option maxHeartbeats 16000000
namespace Go.Proofs.YthkbcjnbmciolaaGreatDoor
open Go.RowKit Go.PlainAid G MGF IRow
set_option linter.unusedVariables false
theorem BV.grown {v : Value} {u u' : World} {h : Nat} {row : Option Nat} (b : BV v u h) (hg : u.grownBy u' row) (hr : some h ≠ row) : BV v u' h:=by
 obtain ⟨cs,h1,h2,h3⟩:=b
 exact ⟨cs,h1,h2,h3.grown hg hr⟩
theorem take_snoc {ma : ByteArray} {ts : List Tm} {is : List Im} {k : Nat} (hk : k < is.length) : (is.take k).map (prD ma ts) ++ [prD ma ts (is.getD k imD)] = (is.take (k + 1)).map (prD ma ts):=by
 have h2 : is.take (k + 1) = is.take k ++ [is.getD k imD]:=by
  rw [show is.getD k imD = is[k] by simp [List.getD,List.getElem?_eq_getElem hk]]
  exact (List.take_append_getElem hk).symm
 rw [h2,List.map_append]
 rfl
theorem specDataV {p : VP} {v : Value} {w : World} (ma : ByteArray) (h : VV p v w) (hgd : VGd p) (hm : ma.size <= maxLen) :
 Calls Tryz.prog 5 #[v,.string ma] w fun e w' => ∃ a c,e = .returned (.slice a (p.data ma).length c) /\ w'.ownsRow w.heap.size 66 pwE.k (.slice a (p.data ma).length c) (p.data ma).length (pwE.flat (p.data ma)) /\ Below w.heap.size w w':=by
 obtain ⟨D,hD⟩ : ∃ D,p.data ma = D:=⟨_,rfl⟩
 rw [hD]
 have HD:=qH hD
 clear hD
 have HV:=qH h
 have HGD:=qH hgd
 have HM:=qH hm
 clear h hgd hm
 obtain ⟨b1,b3,b2,b4,g1,g2,r1,r2,hva,hvr⟩:=HV.out
 have HR:=qH hvr
 have HVA:=qH hva
 clear hva hvr
 obtain ⟨i1,hi1,hz1,hs1,hy1⟩:=info_parts infoPair
 obtain ⟨W,hW⟩ : ∃ W,W = w.alloc (.cells (cellsV v) 48):=⟨_,rfl⟩
 have HB0 : Hid (Below w.heap.size w W):=qH (by rw [hW];exact (Below.refl _ _).alloc (Nat.le_refl _) _)
 have HWS : Hid (W.heap.size = w.heap.size + 1):=qH (by rw [hW];simp)
 have HBV0 : Hid (BV v W w.heap.size):=qH (by rw [hW];exact BV.made w HV.out.cells _)
 have HX0 : Hid (BoxC W w.heap.size [.string p.ds,.string p.dt,.int .i64 p.c0,.int .i64 p.c1,.int .i64 p.c2,.int .i64 p.c3,.slice b1 p.n1 b3,.slice b2 p.n2 b4,.bool p.op,.string p.ma,.slice g1 p.gn g2,.int .i64 p.no,.bool p.on,.int .i64 p.nd,.int .i64 p.mn,.slice r1 p.rn r2]):=qH (by rw [hW,HVA.out];exact BoxC.made _ _ _)
 have hmx : Tryz.prog.follows .mixedOrders = true:=by kernel_rfl
 go_enter Tryz.func5,Tryz.ntmps5
 go_upto_region 1 with (refine list_value rfl (exec_box (v:=v) 48 _ rfl rfl) ?_;simp only [pS,List.set])
 rw [<- hW]
 clear hW HVA
 obtain ⟨X,hX⟩ : ∃ X,X = W.alloc (.cells #[] 66):=⟨_,rfl⟩
 have hXB : Below W.heap.size W X:=by rw [hX];exact (Below.refl _ _).alloc (Nat.le_refl _) _
 have HO0 : Hid (X.ownsRow W.heap.size 66 pwE.k (.slice (some ⟨W.heap.size,0,none⟩) 0 0) 0 (pwE.flat [])):=qH (by rw [hX];exact own_made0 pwE W 66 (Nat.le_refl _))
 have HBV:=qH (HBV0.out.below hXB)
 have HX:=qH (HX0.out.below hXB)
 have HB1:=qH (HB0.out.trans (hXB.mono HB0.out.size))
 have HXS : Hid (W.heap.size <= X.heap.size):=qH hXB.size
 clear hXB HBV0 HX0
 go_upto_region 2 with fail
 rw [<- hX]
 clear hX
 have HVC : Hid (∀ u,Below X.heap.size X u -> Calls Tryz.prog 17 #[v] u fun e u' => e = .returned (.bool p.right) /\ Below u.heap.size u u'):=qH (fun u hu => specVaultRightV (HV.out.below (HB1.out.trans (hu.mono HB1.out.size))) HGD.out)
 have HS0 : Hid (Below X.heap.size X X.drew):=qH (Below.refl _ _).drew
 obtain ⟨z,hz⟩ : ∃ z,p.right = z:=⟨_,rfl⟩
 rw [hz] at HVC
 obtain ⟨zc,hzc⟩ : ∃ zc,eqConf2 p.c0 p.c1 p.c2 p.c3 0 0 0 0 = zc:=⟨_,rfl⟩
 have heq : ∀ W : World,(binOp .eql 39 (.agg #[.int .i64 p.c0,.int .i64 p.c1,.int .i64 p.c2,.int .i64 p.c3]) (.agg #[.int .i64 0,.int .i64 0,.int .i64 0,.int .i64 0])).run Tryz.prog W = .ok (.bool zc) W:=fun W => by rw [<- hzc];exact eql_conf2 p.c0 p.c1 p.c2 p.c3 0 0 0 0 W
 have HZC:=qH hzc
 clear hzc
 refine HeldZ.region hmx (fun u => Below X.heap.size X u) (by kernel_rfl) HS0.out ?_
 with_reducible refine HeldZ.value (v:=v) rfl (fun u hu => exec_loadV (HBV.out.below hu) 48 _ rfl rfl (by kernel_rfl)) ?_
 simp only [pS,List.set]
 with_reducible refine HeldZ.call (v:=.bool z) (f:=17) (args:=#[v]) rfl (fun u hu => by go_simp) (fun u hu => Calls.mono (HVC.out u hu) (by rintro e u2 ⟨rfl,hb⟩;exact ⟨rfl,hu.trans (hb.mono hu.size)⟩)) ?_
 simp only [pS,List.set]
 clear HVC
 cases z with
 | false =>
  obtain rfl : D = []:=by rw [<- HD.out];exact dataL_no (by unfold dataOk;rw [hz];rfl)
  iterate 2 (with_reducible refine HeldZ.value (v:=.bool true) rfl (fun u hu => by go_simp) ?_; simp only [pS, List.set])
  iterate 5 (with_reducible refine HeldZ.no rfl ?_; simp only [pS, List.set])
  iterate 2 (with_reducible refine HeldZ.value (v:=.bool true) rfl (fun u hu => by go_simp) ?_; simp only [pS, List.set])
  iterate 7 (with_reducible refine HeldZ.no rfl ?_; simp only [pS, List.set])
  with_reducible refine HeldZ.value (v:=.bool true) rfl (fun u hu => by go_simp) ?_
  simp only [pS,List.set]
  refine HeldZ.nil ?_
  intro u hu
  have HU:=qH (HB1.out.trans (hu.mono HB1.out.size))
  have HOU:=qH (own_mono (own_below HO0.out hu) HB0.out.size)
  clear hu heq
  go_wp2_with fail
  go_ret
  exact ⟨_,_,rfl,HOU.out,HU.out⟩
 | true =>
  iterate 2 (with_reducible refine HeldZ.value (v:=.bool false) rfl (fun u hu => by go_simp) ?_; simp only [pS, List.set])
  iterate 2 (with_reducible refine HeldZ.value (v:=.pointer (some ⟨w.heap.size,2,none⟩)) rfl (fun u hu => by go_simp) ?_; simp only [pS, List.set])
  with_reducible refine HeldZ.value (v:=.agg #[.int .i64 p.c0,.int .i64 p.c1,.int .i64 p.c2,.int .i64 p.c3]) rfl (fun u hu => by have z2:=(HX.out.below hu).cell 2 _ rfl;have z3:=(HX.out.below hu).cell 3 _ rfl;have z4:=(HX.out.below hu).cell 4 _ rfl;have z5:=(HX.out.below hu).cell 5 _ rfl;go_simp) ?_
  simp only [pS,List.set]
  with_reducible refine HeldZ.value (v:=.agg #[.int .i64 0,.int .i64 0,.int .i64 0,.int .i64 0]) rfl (fun u hu => by go_simp) ?_
  simp only [pS,List.set]
  iterate 3 (with_reducible refine HeldZ.value (v:=.bool zc) rfl (fun u hu => by go_simp) ?_; simp only [pS, List.set])
  have HBK:=qH (VP.book hz)
  have HOK : Hid (p.data ma = if checkI ma = p.c3 then p.is.map (prD ma p.ts) else []):=qH (by
   unfold VP.data dataL dataOk
   rw [hz]
   simp)
  clear hz
  cases zc with
  | true =>
   obtain rfl : D = []:=by
    have h1 : p.c0 = 0:=(of_decide_eq_true (show decide _ = true from HZC.out)).1
    rw [<- HD.out,HOK.out]
    rcases bookB_of HBK.out with h | h
    · have:=(zeroK_iff.1 h).2.2
      dsimp only at this
      rw [this]
      simp
    · have:=(confB_iff.1 h.conf).1.1
      dsimp only at this
      omega
   iterate 7 (with_reducible refine HeldZ.no rfl ?_; simp only [pS, List.set])
   with_reducible refine HeldZ.value (v:=.bool true) rfl (fun u hu => by go_simp) ?_
   simp only [pS,List.set]
   refine HeldZ.nil ?_
   intro u hu
   have HU:=qH (HB1.out.trans (hu.mono HB1.out.size))
   have HOU:=qH (own_mono (own_below HO0.out hu) HB0.out.size)
   clear hu heq
   go_wp2_with fail
   go_ret
   exact ⟨_,_,rfl,HOU.out,HU.out⟩
  | false =>
   with_reducible refine HeldZ.value (v:=.string ma) rfl (fun u hu => by go_simp) ?_
   simp only [pS,List.set]
   with_reducible refine HeldZ.call (v:=.int .i64 (checkI ma)) (f:=18) (args:=#[.string ma]) rfl (fun u hu => by go_simp) (fun u hu => Calls.mono (specCheckOf_any ma u HM.out) (by rintro e u2 ⟨rfl,rfl⟩;exact ⟨rfl,hu⟩)) ?_
   simp only [pS,List.set]
   generalize hck : checkI ma = ck at *
   have HCK:=qH hck
   clear hck
   iterate 2 (with_reducible refine HeldZ.value (v:=.pointer (some ⟨w.heap.size,2,none⟩)) rfl (fun u hu => by go_simp) ?_; simp only [pS, List.set])
   with_reducible refine HeldZ.value (v:=.pointer (some ⟨w.heap.size,5,none⟩)) rfl (fun u hu => by go_simp) ?_
   simp only [pS,List.set]
   with_reducible refine HeldZ.value (v:=.int .i64 p.c3) rfl (fun u hu => by have z5:=(HX.out.below hu).cell 5 _ rfl;go_simp) ?_
   simp only [pS,List.set]
   by_cases hne : ck = p.c3
   · have hb0 : (ck != p.c3) = false:=by rw [hne];simp
     iterate 2 (with_reducible refine HeldZ.value (v:=.bool false) rfl (fun u hu => by go_simp) ?_; simp only [pS, List.set])
     refine HeldZ.nil ?_
     intro u hu
     have HU:=qH hu
     clear hu hb0 heq
     have hD2 : D = p.is.map (prD ma p.ts):=by rw [<- HD.out,HOK.out,if_pos hne]
     have hsec : secR ma = true:=check_sec (by have:=book_c3 HBK.out;exact this) (HCK.out.trans hne)
     clear hne HOK
     have hil:=HR.out.b.i.len
     have HLN:=qH hil
     have HQ : Hid (∀ j,j < p.n2 -> KeyOk ma p.ts (p.is.getD j imD).tm (p.is.getD j imD).bd):=qH (fun j hj => key_ok HBK.out hsec (getD_in (by rw [hil];exact hj)))
     have h8 : p.n2 <= 8:=by have:=book_many HBK.out;dsimp only at this;omega
     have HDE : Hid (D = (p.is.take p.n2).map (prD ma p.ts)):=qH (by rw [hD2,<- hil,List.take_length])
     have HDL : Hid (D.length = p.n2):=qH (by rw [hD2,List.length_map,hil])
     clear hil hsec hD2 HBK HCK HV
     obtain ⟨vm,hvm⟩ : ∃ vm : Value,vm = .agg #[.string p.ds,.string p.dt,.int .i64 p.c0,.int .i64 p.c1,.int .i64 p.c2,.int .i64 p.c3,.slice b1 p.n1 b3,.slice b2 p.n2 b4,.bool p.op,.string ma,.slice g1 p.gn g2,.int .i64 p.no,.bool p.on,.int .i64 p.nd,.int .i64 p.mn,.slice r1 p.rn r2]:=⟨_,rfl⟩
     have x9:=(HX.out.below HU.out).cell 9 _ rfl
     have f9:=(HX.out.below HU.out).free 9
     obtain ⟨Y,hY⟩ : ∃ Y,Y = u.setCell ⟨w.heap.size,9,none⟩ (.string ma):=⟨_,rfl⟩
     have hG : World.grownBy u Y (some w.heap.size):=by rw [hY];exact set_grown _ _ _ _
     have hYX : BoxC Y w.heap.size [.string p.ds,.string p.dt,.int .i64 p.c0,.int .i64 p.c1,.int .i64 p.c2,.int .i64 p.c3,.slice b1 p.n1 b3,.slice b2 p.n2 b4,.bool p.op,.string ma,.slice g1 p.gn g2,.int .i64 p.no,.bool p.on,.int .i64 p.nd,.int .i64 p.mn,.slice r1 p.rn r2]:=by rw [hY];exact (HX.out.below HU.out).set (j:=9) (by simp) (.string ma)
     have HYX:=qH hYX
     have HYV : Hid (BV vm Y w.heap.size):=qH ⟨_,rfl,hvm,hYX⟩
     have HYB : Hid (Below w.heap.size w Y):=qH (grown_below (HB1.out.trans (HU.out.mono HB1.out.size)) hG (Nat.le_refl _) (HB1.out.trans (HU.out.mono HB1.out.size)).size)
     have HYO : Hid (Y.ownsRow W.heap.size 66 pwE.k (.slice (some ⟨W.heap.size,0,none⟩) 0 0) 0 (pwE.flat ((p.is.take 0).map (prD ma p.ts)))):=qH (own_far (own_below HO0.out HU.out) hG (by have:=HWS.out;omega))
     have HYS : Hid (W.heap.size <= Y.heap.size):=qH (Nat.le_trans HXS.out (Nat.le_trans HU.out.size hG.size))
     have HKEY : Hid (∀ (u : World) (j : Nat),j < p.n2 -> Below w.heap.size w u -> Calls Tryz.prog 20 #[vm,.int .i64 (p.is.getD j imD).tm] u fun e u' => e = .returned (.string (keyD ma p.ts (p.is.getD j imD).tm)) /\ Below u.heap.size u u'):=qH (fun u j hj hu => by rw [hvm];exact l09Key_any p.ds p.dt p.c0 p.c1 p.c2 p.c3 p.op ma p.no p.on p.nd p.mn b1 p.n1 b3 b2 p.n2 b4 p.ts g1 p.gn g2 r1 p.rn r2 _ _ u (SR.below HR.out.b.t hu) (HQ.out j hj))
     clear hYX hG hvm HO0 HU HX HBV HB1
     go_upto_region 5 with fail
     rw [<- hY]
     clear hY x9 f9
     go_wp2_with fail
     go_loopw [5,6] (fun q i wr => ∃ k : Nat,k <= p.n2 /\ i = .int .i64 k /\ Hid (wr.ownsRow W.heap.size 66 pwE.k q k (pwE.flat ((p.is.take k).map (prD ma p.ts)))) /\ Hid (BoxC wr w.heap.size [.string p.ds,.string p.dt,.int .i64 p.c0,.int .i64 p.c1,.int .i64 p.c2,.int .i64 p.c3,.slice b1 p.n1 b3,.slice b2 p.n2 b4,.bool p.op,.string ma,.slice g1 p.gn g2,.int .i64 p.no,.bool p.on,.int .i64 p.nd,.int .i64 p.mn,.slice r1 p.rn r2]) /\ Hid (BV vm wr w.heap.size) /\ Hid (Below w.heap.size w wr) /\ Hid (W.heap.size <= wr.heap.size)) (fun _ i _ => p.n2 - (intOf i).toNat)
     case atStart => exact ⟨0,Nat.zero_le _,rfl,HYO,HYX,HYV,HYB,HYS⟩
     case round =>
      clear HYO HYX HYV HYB HYS
      obtain ⟨k,hk,rfl,HQR,HBX,HBM,HB,HSZ⟩:=hrel
      obtain ⟨qa,qc,rfl⟩:=own_shape HQR.out
      have x7:=HBX.out.cell 7 _ rfl
      by_cases hlt : k < p.n2
      · obtain ⟨g,oo,hga,hg,hc0,hc1,hc2⟩:=ImR.at (SR.below HR.out.b.i HB.out) hlt
        subst hga
        have hts:=take_snoc (ma:=ma) (ts:=p.ts) (is:=p.is) (k:=k) (by rw [HLN.out];exact hlt)
        rw [show prD ma p.ts (p.is.getD k imD) = ⟨(p.is.getD k imD).nm,txtD ma p.ts (p.is.getD k imD).tm (p.is.getD k imD).bd⟩ from rfl] at hts
        have hqk:=HQ.out k hlt
        have hkey:=fun u hu => HKEY.out u k hlt hu
        have hin : 0 <= (k : Int) /\ (k : Int) < (p.n2 : Int):=by omega
        have HTX:=qH (show lkS (keyD ma p.ts (p.is.getD k imD).tm) 0 (p.is.getD k imD).bd = txtD ma p.ts (p.is.getD k imD).tm (p.is.getD k imD).bd from rfl)
        have hks:=hqk.key
        have hbs:=hqk.hbd
        generalize (p.is.getD k imD).nm = nm at *
        generalize (p.is.getD k imD).tm = tm at *
        generalize (p.is.getD k imD).bd = bd at *
        generalize txtD ma p.ts tm bd = tx at *
        generalize keyD ma p.ts tm = key at *
        have HKY:=qH hkey
        have HTS:=qH hts
        have HLK : Hid (∀ u : World,Calls Tryz.prog 19 #[.string key,.int .i64 0,.string bd] u fun e u' => e = .returned (.string tx) /\ Below u.heap.size u u'):=qH (fun u => by have:=l06Lock_any key 0 bd u hks.1 hks.2 (by omega) (by omega);rw [HTX.out] at this;exact this)
        clear hkey hts hqk hks hbs HTX
        go_upto_region 9 with fail
        obtain ⟨V,hV⟩ : ∃ V,V = wr.alloc (.cells #[.string nm,.int .i64 tm,.string bd] 62):=⟨_,rfl⟩
        have HX : Hid (BoxC V wr.heap.size [.string nm,.int .i64 tm,.string bd]):=qH (by rw [hV];exact BoxC.made _ _ _)
        have HVB : Hid (Below wr.heap.size wr V):=qH (by rw [hV];exact (Below.refl _ _).alloc (Nat.le_refl _) _)
        rw [<- hV]
        clear hV hc0 hc1 hc2 x7
        have HUB : Hid (∀ u,Below V.heap.size V u -> Below wr.heap.size wr u):=qH (fun u hu => HVB.out.trans (hu.mono HVB.out.size))
        have HSO : Hid (∀ u,Below V.heap.size V u -> (BV vm u w.heap.size /\ BoxC u wr.heap.size [.string nm,.int .i64 tm,.string bd])):=qH (fun u hu => ⟨HBM.out.below (HUB.out u hu),HX.out.below hu⟩)
        refine TillZ.region (t:=13) hmx (fun u => BV vm u w.heap.size /\ BoxC u wr.heap.size [.string nm,.int .i64 tm,.string bd]) ?_
        have hW0 : Below V.heap.size V V.drew:=(Below.refl _ _).drew
        have hS0:=HSO.out _ hW0
        refine TillZ.take4 (i:=0) (v:=.slice qa k qc) rfl rfl rfl (by kernel_rfl) hS0 (fun u hu => by go_simp) ?_
        simp only [pS,List.set,zT,zZ]
        refine TillZ.take4 (i:=1) (v:=.pointer (some ⟨wr.heap.size,0,none⟩)) rfl rfl rfl (by kernel_rfl) hS0 (fun u hu => by go_simp) ?_
        simp only [pS,List.set,zT,zZ,zU]
        refine TillZ.take4 (i:=2) (v:=.string nm) rfl rfl rfl (by kernel_rfl) hS0 (fun u hu => by have z:=hu.2.cell 0 _ rfl;go_simp) ?_
        simp only [pS,List.set,zT,zZ,zU]
        refine TillZ.take4 (i:=3) (v:=vm) rfl rfl rfl (by kernel_rfl) hS0 (fun u hu => exec_loadV hu.1 48 _ rfl rfl (by kernel_rfl)) ?_
        simp only [pS,List.set,zT,zZ,zU]
        refine TillZ.take4 (i:=4) (v:=.pointer (some ⟨wr.heap.size,1,none⟩)) rfl rfl rfl (by kernel_rfl) hS0 (fun u hu => by go_simp) ?_
        simp only [pS,List.set,zT,zZ,zU]
        refine TillZ.take4 (i:=5) (v:=.int .i64 tm) rfl rfl rfl (by kernel_rfl) hS0 (fun u hu => by have z:=hu.2.cell 1 _ rfl;go_simp) ?_
        simp only [pS,List.set,zT,zZ,zU]
        refine TillZ.take4 (i:=7) (v:=.pointer (some ⟨wr.heap.size,2,none⟩)) rfl rfl rfl (by kernel_rfl) hS0 (fun u hu => by go_simp) ?_
        simp only [pS,List.set,zT,zZ,zU]
        refine TillZ.take4 (i:=8) (v:=.string bd) rfl rfl rfl (by kernel_rfl) hS0 (fun u hu => by have z:=hu.2.cell 2 _ rfl;go_simp) ?_
        simp only [pS,List.set,zT,zZ,zU]
        generalize V.drew = u0 at hW0 hS0 ⊢
        clear hS0
        refine TillZ.call (i:=6) (f:=20) (args:=#[vm,.int .i64 tm]) (by kernel_rfl) rfl rfl rfl (by go_simp) ?_
        refine Calls.mono (HKY.out u0 (HB.out.trans ((HUB.out _ hW0).mono HB.out.size))) ?_
        rintro e u1 ⟨rfl,hb⟩
        have hw1:=hW0.trans (hb.mono hW0.size)
        clear hb
        refine ⟨_,rfl,HSO.out _ hw1,?_⟩
        simp only [pS,List.set,zT,zZ,zU]
        refine TillZ.call (i:=9) (f:=19) (args:=#[.string key,.int .i64 0,.string bd]) (by kernel_rfl) rfl rfl rfl (by go_simp) ?_
        refine Calls.mono (HLK.out u1) ?_
        rintro e u2 ⟨rfl,hb⟩
        have hw2:=hw1.trans (hb.mono hw1.size)
        clear hb
        refine ⟨_,rfl,HSO.out _ hw2,?_⟩
        simp only [pS,List.set,zT,zZ,zU]
        refine TillZ.value (i:=10) (v:=.agg #[.string nm,.string tx]) (by kernel_rfl) rfl rfl rfl (by go_simp) (HSO.out _ hw2) ?_
        simp only [pS,List.set,zT,zZ,zU]
        refine TillZ.one (i:=11) (by kernel_rfl) ?_
        refine TillZ.opz (i:=11) (v:=.slice (some ⟨u2.heap.size,0,none⟩) 1 1) (w':=u2.alloc (.cells #[.string nm,.string tx] 66)) rfl rfl rfl (by go_simp) (HSO.out _ (hw2.alloc hw2.size _)) ?_
        simp only [pS,List.set,zT,zZ,zU]
        obtain ⟨Z,hZ⟩ : ∃ Z,Z = u2.alloc (.cells #[.string nm,.string tx] 66):=⟨_,rfl⟩
        have hZB : Below u2.heap.size u2 Z:=by rw [hZ];exact (Below.refl _ _).alloc (Nat.le_refl _) _
        have hL : SR pwE pwD Z (some ⟨u2.heap.size,0,none⟩) 1 1 [⟨nm,tx⟩]:=by rw [hZ];exact SR.own (by decide) (World.ownsRow_lit u2 #[.string nm,.string tx] 1 (Nat.le_refl _) (by decide) rfl)
        rw [<- hZ]
        have hw3:=hw2.trans (hZB.mono hw2.size)
        have hbr:=HUB.out _ hw3
        have hO:=own_below HQR.out hbr
        have hS3:=HSO.out _ hw3
        have HB3:=qH (HB.out.trans (hbr.mono HB.out.size))
        have HX3:=qH (HBX.out.below hbr)
        have HS3:=qH (Nat.le_trans HSZ.out hbr.size)
        have hlow : ∀ q,(Value.slice qa k qc).ownBlock = some q -> W.heap.size <= q /\ q < wr.heap.size:=fun q hq => HQR.out.lt q hq
        clear hZ hZB hw2 hw1 hW0
        refine TillZ.one (i:=12) (by kernel_rfl) ?_
        refine append_opz pwE pwD (i:=12) (.tmp 45) (.tmp 56) 36 rfl rfl rfl rfl 66 i1 _ 32 Tryz.underlying36 hi1 hz1 hs1 hy1 rfl (by decide) (by decide) W.heap.size _ k ((p.is.take k).map (prD ma p.ts)) rfl hO _ 1 1 [⟨nm,tx⟩] rfl hL HS3.out (by omega) (by omega) (fun v2 uz O2 G2 => ?_)
        simp only [pS,List.set,zT,zZ,zU]
        have hwz : w.heap.size < W.heap.size:=by have:=HWS.out;omega
        have hne1 : some w.heap.size ≠ (Value.slice qa k qc).ownBlock:=fun e => by have:=(hlow _ e.symm).1;omega
        have hne2 : some wr.heap.size ≠ (Value.slice qa k qc).ownBlock:=fun e => Nat.lt_irrefl _ (hlow _ e.symm).2
        have hsz : BV vm uz w.heap.size /\ BoxC uz wr.heap.size [.string nm,.int .i64 tm,.string bd]:=⟨hS3.1.grown G2 hne1,hS3.2.grown G2 hne2⟩
        obtain ⟨a2,c2,rfl⟩:=own_shape O2
        have HNX:=qH (HX3.out.grown G2 hne1)
        have HNV:=qH hsz.1
        have HNB : Hid (Below w.heap.size w uz):=qH (HB3.out.grown G2 HB3.out.size (fun q hq => by have:=(hlow q hq).1;omega))
        have HNS:=qH (Nat.le_trans HS3.out G2.size)
        rw [HTS.out] at O2
        have HNO:=qH O2
        refine ⟨hsz,?_⟩
        clear O2 G2 hsz hO hL hS3 hbr hlow hne1 hne2
        refine TillZ.hand (v:=.slice a2 (k + 1) c2) (by kernel_rfl) rfl rfl (by go_simp) ?_
        simp only [pS,List.set,zT,zZ,zU]
        refine TillZ.any_done (by kernel_rfl) ?_ _
        go_wp2_with fail
        go_roundw
        case rel => exact ⟨k + 1,by omega,by go_num,HNO,HNX,HNV,HNB,HNS⟩
        case measure => simp [intOf];omega
      · obtain rfl : k = p.n2:=by omega
        have hge : ¬ (p.n2 : Int) < (p.n2 : Int):=by omega
        have HNO:=qH (own_mono HQR.out HB0.out.size)
        rw [<- HDE.out] at HNO
        go_wp2_with fail
        go_ret
        exact ⟨qa,qc,by rw [HDL.out];rfl,by rw [HDL.out];exact HNO.out,HB.out⟩
   · have hb0 : (ck != p.c3) = true:=by simpa using hne
     iterate 2 (with_reducible refine HeldZ.value (v:=.bool true) rfl (fun u hu => by go_simp) ?_; simp only [pS, List.set])
     obtain rfl : D = []:=by rw [<- HD.out,HOK.out,if_neg hne]
     refine HeldZ.nil ?_
     intro u hu
     have HU:=qH (HB1.out.trans (hu.mono HB1.out.size))
     have HOU:=qH (own_mono (own_below HO0.out hu) HB0.out.size)
     clear hu heq
     go_wp2_with fail
     go_ret
     exact ⟨_,_,rfl,HOU.out,HU.out⟩
theorem data_len {p : VP} {v : Value} {u : World} (ma : ByteArray) (h : VV p v u) (hg : VGd p) : (p.data ma).length <= 1048576:=by
 obtain ⟨b1,b3,b2,b4,g1,g2,r1,r2,_,hr⟩:=h
 have h1:=hr.b.i.len
 have h2:=hg.v.n.2.1
 unfold VP.data dataL
 split
 · rw [List.length_map];omega
 · exact Nat.zero_le _
end Go.Proofs.YthkbcjnbmciolaaGreatDoor
namespace Go.Proofs.YthkbcjnbmciolaaGreatDoor
open Go.ChangeShapes Go.WideShapes Go.RowKit
theorem door_own : ownKnob Tryz.prog.godebug = none:=by kernel_rfl
theorem door_et : Tryz.prog.globalNamed "errors.errorType" = some 0 := by kernel_rfl
theorem door_rt : (Tryz.prog.cutTypes.find? (·.1 == "internal/reflectlite.rtype")).map (·.2) = some 241 := by kernel_rfl
theorem door_oneRow : ((List.range 307).filter fun t => Tryz.prog.rowNamed t [101,114,114,111,114]) = [175]:=by kernel_rfl
theorem door_size : Tryz.prog.types.size = 307:=by kernel_rfl
def laidL : List (String × DataW Unit) := [("errors.errorType", Rows.laid_errors_errorType)]
theorem et_of_laid {W : World} (h : laidMetH Tryz.prog laidL W) : ET W:=by
 have h' : laidMet Tryz.prog [] W /\ handlesMet Tryz.prog laidL W:=h
 obtain ⟨name,u,ty,e1,e2,e3,e4,e5⟩:=h'.2 _ (List.mem_singleton.2 rfl)
 have en : name = [101,114,114,111,114]:=(Option.some.inj e1).symm
 subst en
 obtain rfl:=Option.some.inj (door_rt.symm.trans e2)
 have hm : ty ∈ (List.range 307).filter fun t => Tryz.prog.rowNamed t [101,114,114,111,114]:=List.mem_filter.2 ⟨List.mem_range.2 (by rw [<- door_size];exact e3),e4⟩
 rw [door_oneRow] at hm
 obtain rfl:=List.mem_singleton.1 hm
 have hh : typeHandle Tryz.prog 175 = .pointer (some ⟨1,175,none⟩):=by kernel_rfl
 rw [hh] at e5
 unfold ET
 simpa using World.var?_cell door_et e5 0
noncomputable def laidWorld (os : Os) : World :=
 { World.holding Tryz.prog os ⟨#[],#[],[]⟩ with heap:=(World.holding Tryz.prog os ⟨#[],#[],[]⟩).heap.modify 0 fun
  | .cells _ t frozen => .cells #[.iface 241 (.agg #[.pointer (some ⟨1,175,none⟩)])] t frozen
  | o => o }
theorem laidWorld_met (os : Os) (args : Array Value) : laidMetH Tryz.prog laidL ((laidWorld os).forCall (fun _ _ => 0) ⟨#[],args,[]⟩).memory :=
 laidMetH_of_parts (laidMet_nil _ _) (by kernel_rfl)
end Go.Proofs.YthkbcjnbmciolaaGreatDoor
