/- Used by the law. -/
import Derived.DeepKeys
import Derived.Test.YthkbcjnbmciolaaGreatDoorQV39
set_option maxRecDepth 100000
set_option maxHeartbeats 16000000
namespace Go.Proofs.YthkbcjnbmciolaaGreatDoor
open Go.RowKit Go.PlainAid G MGF IRow
set_option linter.unusedVariables false
def tabL (ma : ByteArray) (ts : List Tm) (is : List Im) (k : Nat) : List Pw:=(is.take k).map (prD ma ts) ++ List.replicate (8 - k) pwD
theorem tab_len {ma : ByteArray} {ts : List Tm} {is : List Im} {k : Nat} (hk : k <= is.length) (h8 : k <= 8) : (tabL ma ts is k).length = 8:=by unfold tabL;simp;omega
theorem tab_zero (ma : ByteArray) (ts : List Tm) (is : List Im) : tabL ma ts is 0 = List.replicate 8 pwD:=by unfold tabL;simp
theorem tab_set {ma : ByteArray} {ts : List Tm} {is : List Im} {k : Nat} (hk : k < is.length) (h8 : k < 8) : (tabL ma ts is k).set k (prD ma ts (is.getD k imD)) = tabL ma ts is (k + 1):=by
 unfold tabL
 have h1 : ((is.take k).map (prD ma ts)).length = k:=by simp;omega
 have h2 : is.take (k + 1) = is.take k ++ [is.getD k imD]:=by
  rw [show is.getD k imD = is[k] by simp [List.getD,List.getElem?_eq_getElem hk]]
  exact (List.take_append_getElem hk).symm
 rw [List.set_append_right _ _ (by omega),h1,Nat.sub_self,h2,List.map_append,List.append_assoc,show 8 - k = (8 - (k + 1)) + 1 by omega,List.replicate_succ]
 rfl
theorem flat_one (l : List Pw) : (pwE.flat l).all (·.oneCell') = true:=by
 induction l with
 | nil => rfl
 | cons p l ih =>
  simp only [Enc.flat,List.all_append,ih,Bool.and_true]
  rfl
theorem tableOf_any (c0 c1 c2 c3 : Int) (a1 : Option Addr) (n1 a3 : Nat) (a2 : Option Addr) (n2 a4 : Nat) (ts : List Tm) (is : List Im) (ma : ByteArray) (w : World) (h : BkR w a1 n1 a3 a2 n2 a4 ts is) (hn : n2 <= 8) (hq : ∀ j,j < n2 -> KeyOk ma ts (is.getD j imD).tm (is.getD j imD).bd) (hs : ∀ j,j < n2 -> (is.getD j imD).nm.size <= 1000000) :
 Calls Tryz.prog 27 #[.agg #[.int .i64 c0,.int .i64 c1,.int .i64 c2,.int .i64 c3,.slice a1 n1 a3,.slice a2 n2 a4],.string ma] w fun e w' => e = .returned (.agg (pwE.flat (tabL ma ts is n2)).toArray) /\ Below w.heap.size w w':=by
 have HLN:=qH h.i.len
 have HR:=qH h
 have HQ:=qH hq
 have HSZ:=qH hs
 clear h hq hs
 obtain ⟨W,hW⟩ : ∃ W,W = ((w.alloc (.cells #[.int .i64 c0,.int .i64 c1,.int .i64 c2,.int .i64 c3,.slice a1 n1 a3,.slice a2 n2 a4] 43)).alloc (.cells #[.string ⟨#[]⟩,.string ⟨#[]⟩,.string ⟨#[]⟩,.string ⟨#[]⟩,.string ⟨#[]⟩,.string ⟨#[]⟩,.string ⟨#[]⟩,.string ⟨#[]⟩,.string ⟨#[]⟩,.string ⟨#[]⟩,.string ⟨#[]⟩,.string ⟨#[]⟩,.string ⟨#[]⟩,.string ⟨#[]⟩,.string ⟨#[]⟩,.string ⟨#[]⟩] 72)).alloc (.cells #[.string ⟨#[]⟩,.string ⟨#[]⟩,.string ⟨#[]⟩,.string ⟨#[]⟩,.string ⟨#[]⟩,.string ⟨#[]⟩,.string ⟨#[]⟩,.string ⟨#[]⟩,.string ⟨#[]⟩,.string ⟨#[]⟩,.string ⟨#[]⟩,.string ⟨#[]⟩,.string ⟨#[]⟩,.string ⟨#[]⟩,.string ⟨#[]⟩,.string ⟨#[]⟩] 72):=⟨_,rfl⟩
 have HB0 : Hid (Below w.heap.size w W):=qH (by rw [hW];exact (((Below.refl _ _).alloc (Nat.le_refl _) _).alloc (by simp) _).alloc (by simp;omega) _)
 have HA : Hid (BoxC W w.heap.size [.int .i64 c0,.int .i64 c1,.int .i64 c2,.int .i64 c3,.slice a1 n1 a3,.slice a2 n2 a4]):=qH (by rw [hW];exact ((BoxC.made _ _ _).alloc _).alloc _)
 have HT : Hid (BoxC W (w.heap.size + 1) [.string ⟨#[]⟩,.string ⟨#[]⟩,.string ⟨#[]⟩,.string ⟨#[]⟩,.string ⟨#[]⟩,.string ⟨#[]⟩,.string ⟨#[]⟩,.string ⟨#[]⟩,.string ⟨#[]⟩,.string ⟨#[]⟩,.string ⟨#[]⟩,.string ⟨#[]⟩,.string ⟨#[]⟩,.string ⟨#[]⟩,.string ⟨#[]⟩,.string ⟨#[]⟩]):=qH (by rw [hW];have:=(BoxC.made (w.alloc (.cells #[.int .i64 c0,.int .i64 c1,.int .i64 c2,.int .i64 c3,.slice a1 n1 a3,.slice a2 n2 a4] 43)) #[.string ⟨#[]⟩,.string ⟨#[]⟩,.string ⟨#[]⟩,.string ⟨#[]⟩,.string ⟨#[]⟩,.string ⟨#[]⟩,.string ⟨#[]⟩,.string ⟨#[]⟩,.string ⟨#[]⟩,.string ⟨#[]⟩,.string ⟨#[]⟩,.string ⟨#[]⟩,.string ⟨#[]⟩,.string ⟨#[]⟩,.string ⟨#[]⟩,.string ⟨#[]⟩] 72).alloc (.cells #[.string ⟨#[]⟩,.string ⟨#[]⟩,.string ⟨#[]⟩,.string ⟨#[]⟩,.string ⟨#[]⟩,.string ⟨#[]⟩,.string ⟨#[]⟩,.string ⟨#[]⟩,.string ⟨#[]⟩,.string ⟨#[]⟩,.string ⟨#[]⟩,.string ⟨#[]⟩,.string ⟨#[]⟩,.string ⟨#[]⟩,.string ⟨#[]⟩,.string ⟨#[]⟩] 72);rw [World.size_alloc] at this;exact this)
 have HU : Hid (BoxC W (w.heap.size + 2) (pwE.flat (tabL ma ts is 0))):=qH (by rw [tab_zero,hW];have:=BoxC.made ((w.alloc (.cells #[.int .i64 c0,.int .i64 c1,.int .i64 c2,.int .i64 c3,.slice a1 n1 a3,.slice a2 n2 a4] 43)).alloc (.cells #[.string ⟨#[]⟩,.string ⟨#[]⟩,.string ⟨#[]⟩,.string ⟨#[]⟩,.string ⟨#[]⟩,.string ⟨#[]⟩,.string ⟨#[]⟩,.string ⟨#[]⟩,.string ⟨#[]⟩,.string ⟨#[]⟩,.string ⟨#[]⟩,.string ⟨#[]⟩,.string ⟨#[]⟩,.string ⟨#[]⟩,.string ⟨#[]⟩,.string ⟨#[]⟩] 72)) #[.string ⟨#[]⟩,.string ⟨#[]⟩,.string ⟨#[]⟩,.string ⟨#[]⟩,.string ⟨#[]⟩,.string ⟨#[]⟩,.string ⟨#[]⟩,.string ⟨#[]⟩,.string ⟨#[]⟩,.string ⟨#[]⟩,.string ⟨#[]⟩,.string ⟨#[]⟩,.string ⟨#[]⟩,.string ⟨#[]⟩,.string ⟨#[]⟩,.string ⟨#[]⟩] 72;rw [World.size_alloc,World.size_alloc] at this;exact this)
 have HWZ : Hid (W.heap.size = w.heap.size + 3):=qH (by rw [hW];simp)
 have hmx : Tryz.prog.follows .mixedOrders = true:=by kernel_rfl
 go_enter Tryz.func27,Tryz.ntmps27
 go_upto_region 2 with fail
 rw [<- hW]
 clear hW
 have x5:=HA.out.cell 5 _ rfl
 go_wp2_with fail
 clear x5
 go_loopw [11] (fun i wr => ∃ k : Nat,k <= n2 /\ i = .int .i64 k /\ Hid (BoxC wr (w.heap.size + 2) (pwE.flat (tabL ma ts is k))) /\ Hid (Below w.heap.size w wr) /\ Hid (BoxC wr w.heap.size [.int .i64 c0,.int .i64 c1,.int .i64 c2,.int .i64 c3,.slice a1 n1 a3,.slice a2 n2 a4]) /\ Hid (BoxC wr (w.heap.size + 1) [.string ⟨#[]⟩,.string ⟨#[]⟩,.string ⟨#[]⟩,.string ⟨#[]⟩,.string ⟨#[]⟩,.string ⟨#[]⟩,.string ⟨#[]⟩,.string ⟨#[]⟩,.string ⟨#[]⟩,.string ⟨#[]⟩,.string ⟨#[]⟩,.string ⟨#[]⟩,.string ⟨#[]⟩,.string ⟨#[]⟩,.string ⟨#[]⟩,.string ⟨#[]⟩]) /\ Hid (w.heap.size + 3 <= wr.heap.size)) (fun i _ => n2 - (intOf i).toNat)
 case atStart => exact ⟨0,Nat.zero_le _,rfl,HU,HB0,HA,HT,qH (Nat.le_of_eq HWZ.out.symm)⟩
 case round =>
  clear HU HB0 HA HT
  obtain ⟨k,hk,rfl,HTB,HB,HAB,HTT,HWS⟩:=hrel
  by_cases hlt : k < n2
  · obtain ⟨g,oo,rfl,hg,hc0,hc1,hc2⟩:=ImR.at (SR.below HR.out.i HB.out) hlt
    have hqk:=HQ.out k hlt
    have hsk:=HSZ.out k hlt
    have hin : 0 <= (k : Int) /\ (k : Int) < (n2 : Int):=by omega
    have hin8 : 0 <= (k : Int) /\ (k : Int) < 8:=by omega
    have hts:=tab_set (ma:=ma) (ts:=ts) (is:=is) (k:=k) (by rw [HLN.out];exact hlt) (by omega)
    rw [show prD ma ts (is.getD k imD) = ⟨(is.getD k imD).nm,txtD ma ts (is.getD k imD).tm (is.getD k imD).bd⟩ from rfl] at hts
    have HTL : Hid ((tabL ma ts is k).length = 8):=qH (tab_len (by rw [HLN.out];omega) (by omega))
    generalize (is.getD k imD).nm = nm at *
    generalize (is.getD k imD).tm = tm at *
    generalize (is.getD k imD).bd = bd at *
    have HQK:=qH hqk
    have HSK:=qH hsk
    clear hqk hsk
    go_upto_region 5 with fail
    obtain ⟨V,hV⟩ : ∃ V,V = wr.alloc (.cells #[.string nm,.int .i64 tm,.string bd] 62):=⟨_,rfl⟩
    have HX : Hid (BoxC V wr.heap.size [.string nm,.int .i64 tm,.string bd]):=qH (by rw [hV];exact BoxC.made _ _ _)
    have HVB : Hid (Below wr.heap.size wr V):=qH (by rw [hV];exact (Below.refl _ _).alloc (Nat.le_refl _) _)
    rw [<- hV]
    clear hV hc0 hc1 hc2
    have HUB : Hid (∀ u,Below V.heap.size V u -> Below wr.heap.size wr u):=qH (fun u hu => HVB.out.trans (hu.mono HVB.out.size))
    have HTR : Hid (∀ u,Below V.heap.size V u -> TmR u a1 n1 a3 ts):=qH (fun u hu => SR.below HR.out.t (HB.out.trans ((HUB.out u hu).mono HB.out.size)))
    have HSO : Hid (∀ u,Below V.heap.size V u -> (BoxC u w.heap.size [.int .i64 c0,.int .i64 c1,.int .i64 c2,.int .i64 c3,.slice a1 n1 a3,.slice (some ⟨g,oo,none⟩) n2 a4] /\ BoxC u wr.heap.size [.string nm,.int .i64 tm,.string bd])):=qH (fun u hu => ⟨HAB.out.below (HUB.out u hu),HX.out.below hu⟩)
    generalize htx : txtD ma ts tm bd = tx at *
    have HTX : Hid (∀ u,Below V.heap.size V u -> Calls Tryz.prog 62 #[.agg #[.int .i64 c0,.int .i64 c1,.int .i64 c2,.int .i64 c3,.slice a1 n1 a3,.slice (some ⟨g,oo,none⟩) n2 a4],.string ma,.agg #[.string nm,.int .i64 tm,.string bd]] u fun e u' => e = .returned (.string tx) /\ Below u.heap.size u u'):=qH (fun u hu => by rw [<- htx];exact textIn_any c0 c1 c2 c3 a1 n1 a3 _ n2 a4 ts ma nm tm bd u (HTR.out u hu) HQK.out)
    clear htx
    refine TillZ.region (t:=11) hmx (fun u => BoxC u w.heap.size [.int .i64 c0,.int .i64 c1,.int .i64 c2,.int .i64 c3,.slice a1 n1 a3,.slice (some ⟨g,oo,none⟩) n2 a4] /\ BoxC u wr.heap.size [.string nm,.int .i64 tm,.string bd]) ?_
    have hW0 : Below V.heap.size V V.drew:=(Below.refl _ _).drew
    have hS0:=HSO.out _ hW0
    refine TillZ.take4 (i:=0) (v:=.int .i64 (k : Int)) rfl rfl rfl (by kernel_rfl) hS0 (fun u hu => by go_simp) ?_
    simp only [pS,List.set,zT,zZ]
    refine TillZ.take4 (i:=1) (v:=.pointer (some ⟨wr.heap.size,0,none⟩)) rfl rfl rfl (by kernel_rfl) hS0 (fun u hu => by go_simp) ?_
    simp only [pS,List.set,zT,zZ,zU]
    refine TillZ.take4 (i:=2) (v:=.string nm) rfl rfl rfl (by kernel_rfl) hS0 (fun u hu => by have z:=hu.2.cell 0 _ rfl;go_simp) ?_
    simp only [pS,List.set,zT,zZ,zU]
    refine TillZ.take4 (i:=5) (v:=.agg #[.int .i64 c0,.int .i64 c1,.int .i64 c2,.int .i64 c3,.slice a1 n1 a3,.slice (some ⟨g,oo,none⟩) n2 a4]) rfl rfl rfl (by kernel_rfl) hS0 (fun u hu => exec_load hu.1 43 _ 6 rfl rfl rfl (by kernel_rfl)) ?_
    simp only [pS,List.set,zT,zZ,zU]
    refine TillZ.take4 (i:=6) (v:=.string ma) rfl rfl rfl (by kernel_rfl) hS0 (fun u hu => by go_simp) ?_
    simp only [pS,List.set,zT,zZ,zU]
    refine TillZ.take4 (i:=7) (v:=.agg #[.string nm,.int .i64 tm,.string bd]) rfl rfl rfl (by kernel_rfl) hS0 (fun u hu => exec_load hu.2 62 _ 3 rfl rfl rfl (by kernel_rfl)) ?_
    simp only [pS,List.set,zT,zZ,zU]
    generalize V.drew = u0 at hW0 hS0 ⊢
    clear hS0
    refine TillZ.one (i:=3) (by kernel_rfl) ?_
    refine TillZ.opz (i:=3) (v:=.slice (some ⟨u0.heap.size,0,none⟩) 1 1) (w':=u0.alloc (.cells #[.string nm] 9)) rfl rfl rfl (by go_simp) (HSO.out _ (hW0.alloc hW0.size _)) ?_
    simp only [pS,List.set,zT,zZ,zU]
    obtain ⟨u1,hu⟩ : ∃ X,X = u0.alloc (.cells #[.string nm] 9):=⟨_,rfl⟩
    have hw1 : Below V.heap.size V u1:=by rw [hu];exact hW0.alloc hW0.size _
    have hc3 : u1.cell? ⟨u0.heap.size,0,none⟩ = some (.string nm):=by rw [hu];simp
    have hl3 : u0.heap.size < u1.heap.size:=by rw [hu];simp
    rw [<- hu]
    clear hu
    obtain ⟨p3,hp3⟩ : ∃ p,p = u0.heap.size:=⟨_,rfl⟩
    rw [<- hp3] at hc3 hl3 ⊢
    clear hp3
    refine TillZ.one (i:=4) (by kernel_rfl) ?_
    refine TillZ.callz (i:=4) (f:=61) (args:=#[.slice (some ⟨p3,0,none⟩) 1 1]) rfl rfl rfl (by go_simp) ?_
    refine Calls.mono (joined_at nm p3 u1 hl3 hc3 (by have:=HSK.out;omega)) ?_
    rintro e u2 ⟨rfl,hb⟩
    have hw2:=hw1.trans (hb.mono hw1.size)
    clear hl3 hc3
    refine ⟨_,rfl,HSO.out _ hw2,?_⟩
    clear hb
    simp only [pS,List.set,zT,zZ,zU]
    refine TillZ.one (i:=8) (by kernel_rfl) ?_
    refine TillZ.callz (i:=8) (f:=62) (args:=#[.agg #[.int .i64 c0,.int .i64 c1,.int .i64 c2,.int .i64 c3,.slice a1 n1 a3,.slice (some ⟨g,oo,none⟩) n2 a4],.string ma,.agg #[.string nm,.int .i64 tm,.string bd]]) rfl rfl rfl (by go_simp) ?_
    refine Calls.mono (HTX.out _ hw2) ?_
    rintro e u3 ⟨rfl,hb⟩
    have hw3:=hw2.trans (hb.mono hw2.size)
    refine ⟨_,rfl,HSO.out _ hw3,?_⟩
    clear hb
    simp only [pS,List.set,zT,zZ,zU]
    refine TillZ.value (i:=9) (v:=.agg #[.string nm,.string tx]) (by kernel_rfl) rfl rfl rfl (by go_simp) (HSO.out _ hw3) ?_
    simp only [pS,List.set,zT,zZ,zU]
    refine TillZ.value (i:=10) (v:=.pointer (some ⟨w.heap.size + 2,k * 2,none⟩)) (by kernel_rfl) rfl rfl rfl (by go_simp) (HSO.out _ hw3) ?_
    simp only [pS,List.set,zT,zZ,zU]
    have hbb:=HUB.out _ hw3
    have hbx:=HTB.out.below hbb
    have hfl : (pwE.flat (tabL ma ts is k)).length = 16:=by rw [pwE.flat_length,HTL.out];rfl
    have z0:=hbx.cell (k * 2) _ (List.getElem?_eq_getElem (by omega))
    have z1:=hbx.cell (k * 2 + 1) _ (List.getElem?_eq_getElem (by omega))
    have f0:=hbx.free (k * 2)
    have f1:=hbx.free (k * 2 + 1)
    have e0 : (pwE.flat (tabL ma ts is k)).set (k * 2) (.string nm) = pwE.flat ((tabL ma ts is k).set k ⟨nm,((tabL ma ts is k).getD k pwD).tx⟩):=flat_setX pwE pwD _ k 0 _ _ (by have:=HTL.out;omega) (by decide) rfl
    have e1 : (pwE.flat ((tabL ma ts is k).set k ⟨nm,((tabL ma ts is k).getD k pwD).tx⟩)).set (k * 2 + 1) (.string tx) = pwE.flat (((tabL ma ts is k).set k ⟨nm,((tabL ma ts is k).getD k pwD).tx⟩).set k ⟨nm,tx⟩):=flat_setX pwE pwD _ k 1 _ _ (by rw [List.length_set];have:=HTL.out;omega) (by decide) (by rw [show ((tabL ma ts is k).set k ⟨nm,((tabL ma ts is k).getD k pwD).tx⟩).getD k pwD = ⟨nm,((tabL ma ts is k).getD k pwD).tx⟩ from by simp [List.getD,show k < (tabL ma ts is k).length by have:=HTL.out;omega]];rfl)
    have HNB : Hid (BoxC ((u3.setCell ⟨w.heap.size + 2,k * 2,none⟩ (.string nm)).setCell ⟨w.heap.size + 2,k * 2 + 1,none⟩ (.string tx)) (w.heap.size + 2) (pwE.flat (tabL ma ts is (k + 1)))):=qH (by
     have h1:=(hbx.set (j:=k * 2) (by omega) (.string nm)).set (j:=k * 2 + 1) (by rw [List.length_set];omega) (.string tx)
     rw [e0,e1,List.set_set,hts] at h1
     exact h1)
    have hG : World.grownBy u3 ((u3.setCell ⟨w.heap.size + 2,k * 2,none⟩ (.string nm)).setCell ⟨w.heap.size + 2,k * 2 + 1,none⟩ (.string tx)) (some (w.heap.size + 2)):=grown_trans (set_grown _ _ _ _) (set_grown _ _ _ _)
    have HNW : Hid (Below w.heap.size w ((u3.setCell ⟨w.heap.size + 2,k * 2,none⟩ (.string nm)).setCell ⟨w.heap.size + 2,k * 2 + 1,none⟩ (.string tx))):=qH (grown_below (HB.out.trans (hbb.mono HB.out.size)) hG (by omega) (HB.out.trans (hbb.mono HB.out.size)).size)
    have HNA:=qH ((HAB.out.below hbb).grown hG (by simp))
    have HNT:=qH ((HTT.out.below hbb).grown hG (by simp))
    have HNS:=qH (Nat.le_trans HWS.out (Nat.le_trans hbb.size hG.size))
    refine TillZ.hand_skip (by kernel_rfl) rfl rfl (w':=(u3.setCell ⟨w.heap.size + 2,k * 2,none⟩ (.string nm)).setCell ⟨w.heap.size + 2,k * 2 + 1,none⟩ (.string tx)) (by go_simp) ?_
    simp only [pN,zT,zZ,zU]
    refine TillZ.any_done (by kernel_rfl) ?_ _
    clear z0 z1 f0 f1 e0 e1 hbx hbb hG hfl
    generalize (u3.setCell ⟨w.heap.size + 2,k * 2,none⟩ (.string nm)).setCell ⟨w.heap.size + 2,k * 2 + 1,none⟩ (.string tx) = uz at *
    go_wp2_with fail
    go_roundw
    case rel => exact ⟨k + 1,by omega,by go_num,HNB,HNW,HNA,HNT,HNS⟩
    case measure => simp [intOf];omega
  · obtain rfl : k = n2:=by omega
    have HFL : Hid ((pwE.flat (tabL ma ts is k)).length = 16):=qH (by rw [pwE.flat_length,tab_len (by rw [HLN.out];omega) (by omega)];rfl)
    have HON:=qH (flat_one (tabL ma ts is k))
    have HG : Hid (World.grownBy wr (wr.setCells (w.heap.size + 1) 0 (pwE.flat (tabL ma ts is k))) (some (w.heap.size + 1))):=qH (setCells_grown _ _ _ _)
    have HNW:=qH (grown_below HB.out HG.out (by omega) HB.out.size)
    have HNT:=qH (box_setCells HTT.out (pwE.flat (tabL ma ts is k)) (by rw [HFL.out];rfl))
    generalize hfl : pwE.flat (tabL ma ts is k) = fl at *
    have HFE:=qH hfl
    clear hfl
    go_wp2_with (first | (refine list_load HTB.out 72 _ 16 rfl rfl rfl HFL.out (by kernel_rfl) ?_;simp only [pS,List.set]) | (refine list_store HTT.out 72 _ _ 16 rfl rfl rfl rfl rfl HFL.out HON.out (by kernel_rfl) ?_;simp only [pN]))
    exact bodyPost_ret (v:=.agg fl.toArray) (results_box HNT.out Tryz.results27 rfl HFL.out (by kernel_rfl)) rfl ⟨by rw [HFE.out],HNW.out⟩
theorem eql_tab_no (s0 s1 s2 s3 s4 s5 s6 s7 s8 s9 s10 s11 s12 s13 s14 s15 : ByteArray) (W : World) (h : ¬ s0 = ⟨#[]⟩) : (binOp .eql 72 (.agg #[.string s0,.string s1,.string s2,.string s3,.string s4,.string s5,.string s6,.string s7,.string s8,.string s9,.string s10,.string s11,.string s12,.string s13,.string s14,.string s15]) (.agg #[.string ⟨#[]⟩,.string ⟨#[]⟩,.string ⟨#[]⟩,.string ⟨#[]⟩,.string ⟨#[]⟩,.string ⟨#[]⟩,.string ⟨#[]⟩,.string ⟨#[]⟩,.string ⟨#[]⟩,.string ⟨#[]⟩,.string ⟨#[]⟩,.string ⟨#[]⟩,.string ⟨#[]⟩,.string ⟨#[]⟩,.string ⟨#[]⟩,.string ⟨#[]⟩])).run Tryz.prog W = .ok (.bool false) W:=by
 have t0 : ¬ s0.toList = []:=fun e => h ((toList_iff s0 _).1 (by rw [e];simp))
 have hl : List.range 8 = [0,1,2,3,4,5,6,7]:=rfl
 have hc : Tryz.prog.cellsOf 66 = 2:=by kernel_rfl
 obtain ⟨i1,hi1,_⟩:=info_parts infoPair
 rw [run_eql_struct,show (10000 : Nat) = 9999 + 1 from rfl,run_equalIn_array W 9999 _ _ Tryz.underlying72 hi1,hl,hc]
 simp [Op.eqItems,go_sem,t0]
theorem eql_tab_yes (W : World) : (binOp .eql 72 (.agg #[.string ⟨#[]⟩,.string ⟨#[]⟩,.string ⟨#[]⟩,.string ⟨#[]⟩,.string ⟨#[]⟩,.string ⟨#[]⟩,.string ⟨#[]⟩,.string ⟨#[]⟩,.string ⟨#[]⟩,.string ⟨#[]⟩,.string ⟨#[]⟩,.string ⟨#[]⟩,.string ⟨#[]⟩,.string ⟨#[]⟩,.string ⟨#[]⟩,.string ⟨#[]⟩]) (.agg #[.string ⟨#[]⟩,.string ⟨#[]⟩,.string ⟨#[]⟩,.string ⟨#[]⟩,.string ⟨#[]⟩,.string ⟨#[]⟩,.string ⟨#[]⟩,.string ⟨#[]⟩,.string ⟨#[]⟩,.string ⟨#[]⟩,.string ⟨#[]⟩,.string ⟨#[]⟩,.string ⟨#[]⟩,.string ⟨#[]⟩,.string ⟨#[]⟩,.string ⟨#[]⟩])).run Tryz.prog W = .ok (.bool true) W:=by
 have hl : List.range 8 = [0,1,2,3,4,5,6,7]:=rfl
 have hc : Tryz.prog.cellsOf 66 = 2:=by kernel_rfl
 obtain ⟨i1,hi1,_⟩:=info_parts infoPair
 rw [run_eql_struct,show (10000 : Nat) = 9999 + 1 from rfl,run_equalIn_array W 9999 _ _ Tryz.underlying72 hi1,hl,hc]
 simp [Op.eqItems,go_sem]
theorem eight (l : List Pw) (h : l.length = 8) : l = [l.getD 0 pwD,l.getD 1 pwD,l.getD 2 pwD,l.getD 3 pwD,l.getD 4 pwD,l.getD 5 pwD,l.getD 6 pwD,l.getD 7 pwD]:=by
 match l,h with
 | [_,_,_,_,_,_,_,_],_ => rfl
theorem eql_flat_no (l : List Pw) (h8 : l.length = 8) (h : ¬ (l.getD 0 pwD).nm = ⟨#[]⟩) (W : World) : (binOp .eql 72 (.agg (pwE.flat l).toArray) (.agg #[.string ⟨#[]⟩,.string ⟨#[]⟩,.string ⟨#[]⟩,.string ⟨#[]⟩,.string ⟨#[]⟩,.string ⟨#[]⟩,.string ⟨#[]⟩,.string ⟨#[]⟩,.string ⟨#[]⟩,.string ⟨#[]⟩,.string ⟨#[]⟩,.string ⟨#[]⟩,.string ⟨#[]⟩,.string ⟨#[]⟩,.string ⟨#[]⟩,.string ⟨#[]⟩])).run Tryz.prog W = .ok (.bool false) W:=by
 have e:=eight l h8
 generalize l.getD 0 pwD = p0 at *
 generalize l.getD 1 pwD = p1 at *
 generalize l.getD 2 pwD = p2 at *
 generalize l.getD 3 pwD = p3 at *
 generalize l.getD 4 pwD = p4 at *
 generalize l.getD 5 pwD = p5 at *
 generalize l.getD 6 pwD = p6 at *
 generalize l.getD 7 pwD = p7 at *
 subst e
 exact eql_tab_no p0.nm p0.tx p1.nm p1.tx p2.nm p2.tx p3.nm p3.tx p4.nm p4.tx p5.nm p5.tx p6.nm p6.tx p7.nm p7.tx W h
theorem nilPair (w : World) (a : Option Addr) (n c n' c' : Nat) : (binOp .eql 36 (.slice a n c) (.slice none n' c')).run Tryz.prog w = .ok (.bool a.isNone) w:=Lib.run_eql_slice_nil w _ _ a n c n' c' Tryz.underlying36
theorem cloneP_any (ad : Addr) (n cap : Nat) (ps : List Pw) (w : World) (h : PwR w (some ad) n cap ps) (hn : n <= 1048576) :
 Calls Tryz.prog 28 #[.slice (some ad) n cap] w fun e w' => ∃ v,e = .returned v /\ w'.ownsRow w.heap.size 66 pwE.k v n (pwE.flat ps) /\ Below w.heap.size w w':=by
 obtain ⟨i1,hi1,hz1,hs1,hy1⟩:=info_parts infoPair
 have hnil:=nilPair
 have HR : Hid (PwR (w.alloc (.cells #[] 66)) (some ad) n cap ps):=qH (SR.below h ((Below.refl _ _).alloc (Nat.le_refl _) _))
 clear h
 have HO:=qH (own_made0 pwE w 66 (Nat.le_refl _))
 have HB:=qH ((Below.refl w.heap.size w).alloc (Nat.le_refl _) (.cells #[] 66))
 go_enter Tryz.func28,Tryz.ntmps28
 go_wp2_with (at_builtin;refine append_wl pwE pwD rfl _ _ 36 rfl 66 i1 _ 32 Tryz.underlying36 hi1 hz1 hs1 hy1 rfl (by decide) (by decide) w.heap.size _ 0 [] rfl HO.out _ n cap ps rfl HR.out HB.out.size (by omega) (by omega) ?_;intro v' w' ho hg;have HO1:=qH ho;have HB1:=qH (HB.out.grown hg HB.out.size (fun q hq => (HO.out.lt q hq).1));clear ho hg)
 go_ret
 exact ⟨_,rfl,by have:=HO1.out;rwa [Nat.zero_add,List.nil_append] at this,HB1.out⟩
theorem pw_box {u : World} {h : Nat} {l : List Pw} {n cap : Nat} (b : BoxC u h (pwE.flat l)) (hc : l.length = cap) (hn : n <= cap) (hp : 0 < cap) : PwR u (some ⟨h,0,none⟩) n cap (l.take n):=by
 refine ⟨by rw [List.length_take];omega,hn,(fun e => by cases e),fun h0 => ⟨h,0,rfl,b.lt,fun i hi j v hj => ?_⟩⟩
 have hjk : j < pwE.k:=by
  by_cases hj2 : j < pwE.k
  · exact hj2
  · rw [List.getElem?_eq_none (by rw [pwE.len];omega)] at hj;cases hj
 refine b.cell _ v ?_
 rw [Nat.zero_add,pwE.flat_at pwD l i j (by omega) hjk]
 rw [show (l.take n).getD i pwD = l.getD i pwD by simp [List.getD,hi]] at hj
 exact hj
theorem tab_take (ma : ByteArray) (ts : List Tm) (is : List Im) : (tabL ma ts is is.length).take is.length = is.map (prD ma ts):=by
 unfold tabL
 rw [List.take_length,List.take_append_of_le_length (by simp)]
 rw [List.take_of_length_le (by simp)]
theorem allocT (w : World) : ∃ V,(∀ (f : Operand -> Value) (o : Oper),o.op = .alloc 72 -> (execOp f o).run Tryz.prog w = .ok (.value (.pointer (some ⟨w.heap.size,0,none⟩))) V) /\ (∃ zs : List Value,zs.length = 16 /\ BoxC V w.heap.size zs) /\ Below w.heap.size w V:=by
 refine ⟨w.alloc (.cells #[.string ⟨#[]⟩,.string ⟨#[]⟩,.string ⟨#[]⟩,.string ⟨#[]⟩,.string ⟨#[]⟩,.string ⟨#[]⟩,.string ⟨#[]⟩,.string ⟨#[]⟩,.string ⟨#[]⟩,.string ⟨#[]⟩,.string ⟨#[]⟩,.string ⟨#[]⟩,.string ⟨#[]⟩,.string ⟨#[]⟩,.string ⟨#[]⟩,.string ⟨#[]⟩] 72),fun f o ho => exec_alloc 72 ho (by go_simp),⟨_,rfl,BoxC.made _ _ _⟩,(Below.refl _ _).alloc (Nat.le_refl _) _⟩
def VP.data (p : VP) (ma : ByteArray) : List Pw:=dataL p.right ma p.c3 p.ts p.is
theorem VP.book {p : VP} (h : p.right = true) : bookB ⟨p.c0,p.c1,p.c2,p.c3,p.ts,p.is⟩ = true:=vault_book h
theorem book_many {b : Bk} (h : bookB b = true) : b.is.length <= 8:=by
 rcases bookB_of h with h | h
 · rw [(zeroK_iff.1 h).2.2];exact Nat.zero_le _
 · exact h.many
theorem book_name {b : Bk} (h : bookB b = true) {x : Im} (hx : x ∈ b.is) : 1 <= x.nm.size /\ x.nm.size <= 8:=by
 rcases bookB_of h with h | h
 · rw [(zeroK_iff.1 h).2.2] at hx;cases hx
 · have:=(h.item x hx).1
   unfold itemB at this
   simp only [Bool.and_eq_true] at this
   exact wordB_size this.1.1
theorem getD_in {l : List Im} {j : Nat} (h : j < l.length) : l.getD j imD ∈ l:=by rw [List.getD,List.getElem?_eq_getElem h];exact List.getElem_mem h
theorem implDataV {p : VP} {v : Value} {w : World} (ma : ByteArray) (h : VV p v w) (hgd : VGd p) (he : ET w) (hm : ma.size <= maxLen) :
 Calls Tryz.prog 7 #[v,.string ma] w fun e w' => ∃ a c,e = .returned (.slice a (p.data ma).length c) /\ w'.ownsRow w.heap.size 66 pwE.k (.slice a (p.data ma).length c) (p.data ma).length (pwE.flat (p.data ma)) /\ Below w.heap.size w w':=by
 obtain ⟨D,hD⟩ : ∃ D,p.data ma = D:=⟨_,rfl⟩
 rw [hD]
 have HD:=qH hD
 clear hD
 have HV:=qH h
 have HGD:=qH hgd
 have HE:=qH he
 have HM:=qH hm
 clear h hgd he hm
 obtain ⟨b1,b3,b2,b4,g1,g2,r1,r2,hva,hvr⟩:=HV.out
 have HR:=qH hvr
 have HVA:=qH hva
 clear hva hvr
 obtain ⟨W,hW⟩ : ∃ W,W = w.alloc (.cells (cellsV v) 48):=⟨_,rfl⟩
 have HB0 : Hid (Below w.heap.size w W):=qH (by rw [hW];exact (Below.refl _ _).alloc (Nat.le_refl _) _)
 have HBV : Hid (BV v W w.heap.size):=qH (by rw [hW];exact BV.made w HV.out.cells _)
 have HX : Hid (BoxC W w.heap.size [.string p.ds,.string p.dt,.int .i64 p.c0,.int .i64 p.c1,.int .i64 p.c2,.int .i64 p.c3,.slice b1 p.n1 b3,.slice b2 p.n2 b4,.bool p.op,.string p.ma,.slice g1 p.gn g2,.int .i64 p.no,.bool p.on,.int .i64 p.nd,.int .i64 p.mn,.slice r1 p.rn r2]):=qH (by rw [hW,HVA.out];exact BoxC.made _ _ _)
 have hmx : Tryz.prog.follows .mixedOrders = true:=by kernel_rfl
 have HVC : Hid (∀ u,Below W.heap.size W u -> Calls Tryz.prog 25 #[v] u fun e u' => e = .returned (.bool p.right) /\ Below u.heap.size u u'):=qH (fun u hu => implVaultRightV (HV.out.below (HB0.out.trans (hu.mono HB0.out.size))) HGD.out (HE.out.below (HB0.out.trans (hu.mono HB0.out.size))))
 go_enter Tryz.func7,Tryz.ntmps7
 go_upto_region 1 with (refine list_value rfl (exec_box (v:=v) 48 _ rfl rfl) ?_;simp only [pS,List.set])
 rw [<- hW]
 clear hW HVA
 have HS0 : Hid (Below W.heap.size W W.drew):=qH (Below.refl _ _).drew
 obtain ⟨z,hz⟩ : ∃ z,p.right = z:=⟨_,rfl⟩
 rw [hz] at HVC
 refine HeldZ.region hmx (fun u => Below W.heap.size W u) (by kernel_rfl) HS0.out ?_
 with_reducible refine HeldZ.value (v:=v) rfl (fun u hu => exec_loadV (HBV.out.below hu) 48 _ rfl rfl (by kernel_rfl)) ?_
 simp only [pS,List.set]
 with_reducible refine HeldZ.call (v:=.bool z) (f:=25) (args:=#[v]) rfl (fun u hu => by go_simp) (fun u hu => Calls.mono (HVC.out u hu) (by rintro e u2 ⟨rfl,hb⟩;exact ⟨rfl,hu.trans (hb.mono hu.size)⟩)) ?_
 simp only [pS,List.set]
 cases z with
 | false =>
  obtain rfl : D = []:=by rw [<- HD.out];exact dataL_no (by unfold dataOk;rw [hz];rfl)
  iterate 2 (with_reducible refine HeldZ.value (v:=.bool true) rfl (fun u hu => by go_simp) ?_; simp only [pS, List.set])
  iterate 7 (with_reducible refine HeldZ.no rfl ?_; simp only [pS, List.set])
  with_reducible refine HeldZ.value (v:=.bool true) rfl (fun u hu => by go_simp) ?_
  simp only [pS,List.set]
  refine HeldZ.nil ?_
  intro u hu
  have HU:=qH (HB0.out.trans (hu.mono HB0.out.size))
  clear hu
  go_wp2_with fail
  go_ret
  exact ⟨none,0,rfl,World.ownsRow_nil _ _ _ _,HU.out⟩
 | true =>
  iterate 2 (with_reducible refine HeldZ.value (v:=.bool false) rfl (fun u hu => by go_simp) ?_; simp only [pS, List.set])
  with_reducible refine HeldZ.value (v:=.string ma) rfl (fun u hu => by go_simp) ?_
  simp only [pS,List.set]
  with_reducible refine HeldZ.call (v:=.int .i64 (checkI ma)) (f:=26) (args:=#[.string ma]) rfl (fun u hu => by go_simp) (fun u hu => Calls.mono (implCheckOf_any ma u HM.out) (by rintro e u2 ⟨rfl,hb⟩;exact ⟨rfl,hu.trans (hb.mono hu.size)⟩)) ?_
  simp only [pS,List.set]
  have HBK:=qH (VP.book hz)
  have HOK : Hid (p.data ma = if checkI ma = p.c3 then p.is.map (prD ma p.ts) else []):=qH (by
   unfold VP.data dataL dataOk
   rw [hz]
   simp)
  clear hz
  generalize hck : checkI ma = ck at *
  have HCK:=qH hck
  clear hck
  iterate 2 (with_reducible refine HeldZ.value (v:=.pointer (some ⟨w.heap.size,2,none⟩)) rfl (fun u hu => by go_simp) ?_; simp only [pS, List.set])
  with_reducible refine HeldZ.value (v:=.pointer (some ⟨w.heap.size,5,none⟩)) rfl (fun u hu => by go_simp) ?_
  simp only [pS,List.set]
  with_reducible refine HeldZ.value (v:=.int .i64 p.c3) rfl (fun u hu => by have z5:=(HX.out.below hu).cell 5 _ rfl;go_simp) ?_
  simp only [pS,List.set]
  by_cases hne : ck = p.c3
  · have hb0 : (ck != p.c3) = false:=by rw [hne];simp
    iterate 2 (with_reducible refine HeldZ.value (v:=.bool false) rfl (fun u hu => by go_simp) ?_; simp only [pS, List.set])
    refine HeldZ.nil ?_
    intro u hu
    have HU:=qH hu
    clear hu hb0
    have hD2 : D = p.is.map (prD ma p.ts):=by rw [<- HD.out,HOK.out,if_pos hne]
    have hsec : secR ma = true:=check_sec (by have:=book_c3 HBK.out;exact this) (HCK.out.trans hne)
    clear hne HOK
    have hil:=HR.out.b.i.len
    have hq : ∀ j,j < p.n2 -> KeyOk ma p.ts (p.is.getD j imD).tm (p.is.getD j imD).bd:=fun j hj => key_ok HBK.out hsec (getD_in (by rw [hil];exact hj))
    have hs : ∀ j,j < p.n2 -> 1 <= (p.is.getD j imD).nm.size /\ (p.is.getD j imD).nm.size <= 8:=fun j hj => book_name HBK.out (getD_in (by rw [hil];exact hj))
    have h8 : p.n2 <= 8:=by have:=book_many HBK.out;dsimp only at this;omega
    have HTO:=qH (tableOf_any p.c0 p.c1 p.c2 p.c3 b1 p.n1 b3 b2 p.n2 b4 p.ts p.is ma u (HR.out.b.below (HB0.out.trans (HU.out.mono HB0.out.size))) h8 hq (fun j hj => by have:=hs j hj;omega))
    have HTL : Hid ((tabL ma p.ts p.is p.n2).length = 8):=qH (tab_len (by omega) h8)
    have HTK : Hid ((tabL ma p.ts p.is p.n2).take p.n2 = D):=qH (by rw [hD2,<- hil];exact tab_take ma p.ts p.is)
    have HDL : Hid (D.length = p.n2):=qH (by rw [hD2,List.length_map,hil])
    have HNE : Hid (0 < p.n2 -> ¬ ((tabL ma p.ts p.is p.n2).getD 0 pwD).nm = ⟨#[]⟩):=qH (fun h0 hx => by
     have h1:=(hs 0 h0).1
     have h2 : (tabL ma p.ts p.is p.n2).getD 0 pwD = prD ma p.ts (p.is.getD 0 imD):=by
      have h3 : (tabL ma p.ts p.is p.n2).getD 0 pwD = ((tabL ma p.ts p.is p.n2).take p.n2).getD 0 pwD:=by simp [List.getD,h0]
      rw [h3,HTK.out,hD2]
      simp [List.getD,List.getElem?_map,List.getElem?_eq_getElem (show 0 < p.is.length by omega)]
     rw [h2] at hx
     have : (p.is.getD 0 imD).nm = ⟨#[]⟩:=hx
     rw [this] at h1
     exact absurd h1 (by decide))
    have HZT : Hid (p.n2 = 0 -> pwE.flat (tabL ma p.ts p.is p.n2) = [.string ⟨#[]⟩,.string ⟨#[]⟩,.string ⟨#[]⟩,.string ⟨#[]⟩,.string ⟨#[]⟩,.string ⟨#[]⟩,.string ⟨#[]⟩,.string ⟨#[]⟩,.string ⟨#[]⟩,.string ⟨#[]⟩,.string ⟨#[]⟩,.string ⟨#[]⟩,.string ⟨#[]⟩,.string ⟨#[]⟩,.string ⟨#[]⟩,.string ⟨#[]⟩]):=qH (fun h0 => by rw [h0,tab_zero];rfl)
    clear hq hs hD2 hsec
    have HON:=qH (flat_one (tabL ma p.ts p.is p.n2))
    have HFL : Hid ((pwE.flat (tabL ma p.ts p.is p.n2)).length = 16):=qH (by rw [pwE.flat_length,HTL.out];rfl)
    have HEQ : Hid (∀ X : World,(binOp .eql 72 (.agg (pwE.flat (tabL ma p.ts p.is p.n2)).toArray) (.agg #[.string ⟨#[]⟩,.string ⟨#[]⟩,.string ⟨#[]⟩,.string ⟨#[]⟩,.string ⟨#[]⟩,.string ⟨#[]⟩,.string ⟨#[]⟩,.string ⟨#[]⟩,.string ⟨#[]⟩,.string ⟨#[]⟩,.string ⟨#[]⟩,.string ⟨#[]⟩,.string ⟨#[]⟩,.string ⟨#[]⟩,.string ⟨#[]⟩,.string ⟨#[]⟩])).run Tryz.prog X = .ok (.bool (decide (p.n2 = 0))) X):=qH (fun X => by
     by_cases h0 : p.n2 = 0
     · rw [HZT.out h0,decide_eq_true h0];exact eql_tab_yes X
     · rw [decide_eq_false h0];exact eql_flat_no _ HTL.out (HNE.out (by omega)) X)
    clear HNE HZT HBK
    have x2:=(HX.out.below HU.out).cell 2 _ rfl
    have x3:=(HX.out.below HU.out).cell 3 _ rfl
    have x4:=(HX.out.below HU.out).cell 4 _ rfl
    have x5:=(HX.out.below HU.out).cell 5 _ rfl
    have x6:=(HX.out.below HU.out).cell 6 _ rfl
    have x7:=(HX.out.below HU.out).cell 7 _ rfl
    go_wp2_with fail
    clear x2 x3 x4 x5 x6 x7
    refine HTO.out.mono ?_
    rintro e u1 ⟨rfl,hb⟩
    have HU1:=qH (HU.out.trans (hb.mono HU.out.size))
    clear hb HTO
    obtain ⟨V,hA,⟨zs,hz,hZ⟩,hVB⟩:=allocT u1
    have HAL:=qH hA
    have HZ:=qH hZ
    have HZL:=qH hz
    have HFB : Hid (BoxC (V.setCells u1.heap.size 0 (pwE.flat (tabL ma p.ts p.is p.n2))) u1.heap.size (pwE.flat (tabL ma p.ts p.is p.n2))):=qH (box_setCells hZ _ (by rw [HFL.out,hz]))
    have hYB : Below u1.heap.size u1 (V.setCells u1.heap.size 0 (pwE.flat (tabL ma p.ts p.is p.n2))):=grown_below hVB (setCells_grown _ _ _ _) (Nat.le_refl _) hVB.size
    have HU2:=qH (HU1.out.trans (hYB.mono HU1.out.size))
    have HPW:=qH (pw_box HFB.out HTL.out h8 (by decide))
    rw [HTK.out] at HPW
    clear hA hz hZ hVB hYB HTK HTL
    generalize pwE.flat (tabL ma p.ts p.is p.n2) = fl at *
    have heq:=HEQ.out
    have HX2:=qH (HX.out.below HU2.out)
    by_cases h0 : p.n2 = 0
    · have hd : decide (p.n2 = 0) = true:=decide_eq_true h0
      rw [hd] at heq
      obtain rfl : D = []:=List.eq_nil_of_length_eq_zero (by rw [HDL.out,h0])
      go_upto_region 5 with (first | (refine list_store HZ.out 72 _ _ 16 rfl rfl rfl rfl HZL.out HFL.out HON.out (by kernel_rfl) ?_;simp only [pN]) | (refine list_load HFB.out 72 _ 16 rfl rfl rfl HFL.out (by kernel_rfl) ?_;simp only [pS,List.set]) | (refine list_value rfl (HAL.out _ _ rfl) ?_;simp only [pS,List.set]))
      go_wp2_with fail
      go_ret
      exact ⟨none,0,rfl,World.ownsRow_nil _ _ _ _,HB0.out.trans (HU2.out.mono HB0.out.size)⟩
    · have hd : decide (p.n2 = 0) = false:=decide_eq_false h0
      rw [hd] at heq
      have x7:=HX2.out.cell 7 _ rfl
      have hle : 0 <= (p.n2 : Int) /\ (p.n2 : Int) <= 8:=by omega
      go_wp2_with (first | (refine list_store HZ.out 72 _ _ 16 rfl rfl rfl rfl HZL.out HFL.out HON.out (by kernel_rfl) ?_;simp only [pN]) | (refine list_load HFB.out 72 _ 16 rfl rfl rfl HFL.out (by kernel_rfl) ?_;simp only [pS,List.set]) | (refine list_value rfl (HAL.out _ _ rfl) ?_;simp only [pS,List.set]))
      refine (cloneP_any ⟨u1.heap.size,0,none⟩ p.n2 8 D _ HPW.out (by omega)).mono ?_
      rintro e u3 ⟨vr,rfl,ho,hb⟩
      obtain ⟨ra,rc,rfl⟩:=own_shape ho
      have HOR:=qH (own_mono ho (Nat.le_trans HB0.out.size HU2.out.size))
      have HU3:=qH (HU2.out.trans (hb.mono HU2.out.size))
      clear ho hb x7
      go_wp2_with fail
      go_ret
      exact ⟨ra,rc,by rw [HDL.out];rfl,by rw [HDL.out];exact HOR.out,HB0.out.trans (HU3.out.mono HB0.out.size)⟩
  · have hb0 : (ck != p.c3) = true:=by simpa using hne
    iterate 2 (with_reducible refine HeldZ.value (v:=.bool true) rfl (fun u hu => by go_simp) ?_; simp only [pS, List.set])
    obtain rfl : D = []:=by rw [<- HD.out,HOK.out,if_neg hne]
    refine HeldZ.nil ?_
    intro u hu
    have HU:=qH (HB0.out.trans (hu.mono HB0.out.size))
    clear hu
    go_wp2_with fail
    go_ret
    exact ⟨none,0,rfl,World.ownsRow_nil _ _ _ _,HU.out⟩
end Go.Proofs.YthkbcjnbmciolaaGreatDoor
