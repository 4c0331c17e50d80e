/- Used by the law. -/
import Derived.DeepKeys
import Derived.Test.YtgafndgnmadcfaaGreatDoorQU38
import Derived.Test.YtgafndgnmadcfaaGreatDoorQU40
set_option maxRecDepth 100000
set_option maxHeartbeats 16000000
namespace Go.Proofs.YtgafndgnmadcfaaGreatDoor
open Go.RowKit Go.PlainAid G MGF IRow
set_option linter.unusedVariables false
theorem eql_tab_no (s0 s1 s2 s3 s4 s5 s6 s7 s8 s9 s10 s11 s12 s13 s14 s15 : ByteArray) (W : World) (h : ¬ s0 = ⟨#[]⟩) : (binOp .eql 99 (.agg #[.string s0,.string s1,.string s2,.string s3,.string s4,.string s5,.string s6,.string s7,.string s8,.string s9,.string s10,.string s11,.string s12,.string s13,.string s14,.string s15]) (.agg #[.string ⟨#[]⟩,.string ⟨#[]⟩,.string ⟨#[]⟩,.string ⟨#[]⟩,.string ⟨#[]⟩,.string ⟨#[]⟩,.string ⟨#[]⟩,.string ⟨#[]⟩,.string ⟨#[]⟩,.string ⟨#[]⟩,.string ⟨#[]⟩,.string ⟨#[]⟩,.string ⟨#[]⟩,.string ⟨#[]⟩,.string ⟨#[]⟩,.string ⟨#[]⟩])).run Tryz.prog W = .ok (.bool false) W:=by
 have t0 : ¬ s0.toList = []:=fun e => h ((toList_iff s0 _).1 (by rw [e];simp))
 have hl : List.range 8 = [0,1,2,3,4,5,6,7]:=rfl
 have hc : Tryz.prog.cellsOf 97 = 2:=by kernel_rfl
 obtain ⟨i1,hi1,_⟩:=info_parts infoPair
 rw [run_eql_struct,show (10000 : Nat) = 9999 + 1 from rfl,run_equalIn_array W 9999 _ _ Tryz.underlying99 hi1,hl,hc]
 simp [Op.eqItems,go_sem,t0]
theorem eql_tab_yes (W : World) : (binOp .eql 99 (.agg #[.string ⟨#[]⟩,.string ⟨#[]⟩,.string ⟨#[]⟩,.string ⟨#[]⟩,.string ⟨#[]⟩,.string ⟨#[]⟩,.string ⟨#[]⟩,.string ⟨#[]⟩,.string ⟨#[]⟩,.string ⟨#[]⟩,.string ⟨#[]⟩,.string ⟨#[]⟩,.string ⟨#[]⟩,.string ⟨#[]⟩,.string ⟨#[]⟩,.string ⟨#[]⟩]) (.agg #[.string ⟨#[]⟩,.string ⟨#[]⟩,.string ⟨#[]⟩,.string ⟨#[]⟩,.string ⟨#[]⟩,.string ⟨#[]⟩,.string ⟨#[]⟩,.string ⟨#[]⟩,.string ⟨#[]⟩,.string ⟨#[]⟩,.string ⟨#[]⟩,.string ⟨#[]⟩,.string ⟨#[]⟩,.string ⟨#[]⟩,.string ⟨#[]⟩,.string ⟨#[]⟩])).run Tryz.prog W = .ok (.bool true) W:=by
 have hl : List.range 8 = [0,1,2,3,4,5,6,7]:=rfl
 have hc : Tryz.prog.cellsOf 97 = 2:=by kernel_rfl
 obtain ⟨i1,hi1,_⟩:=info_parts infoPair
 rw [run_eql_struct,show (10000 : Nat) = 9999 + 1 from rfl,run_equalIn_array W 9999 _ _ Tryz.underlying99 hi1,hl,hc]
 simp [Op.eqItems,go_sem]
theorem eight (l : List Pw) (h : l.length = 8) : l = [l.getD 0 pwD,l.getD 1 pwD,l.getD 2 pwD,l.getD 3 pwD,l.getD 4 pwD,l.getD 5 pwD,l.getD 6 pwD,l.getD 7 pwD]:=by
 match l,h with
 | [_,_,_,_,_,_,_,_],_ => rfl
theorem eql_flat_no (l : List Pw) (h8 : l.length = 8) (h : ¬ (l.getD 0 pwD).nm = ⟨#[]⟩) (W : World) : (binOp .eql 99 (.agg (pwE.flat l).toArray) (.agg #[.string ⟨#[]⟩,.string ⟨#[]⟩,.string ⟨#[]⟩,.string ⟨#[]⟩,.string ⟨#[]⟩,.string ⟨#[]⟩,.string ⟨#[]⟩,.string ⟨#[]⟩,.string ⟨#[]⟩,.string ⟨#[]⟩,.string ⟨#[]⟩,.string ⟨#[]⟩,.string ⟨#[]⟩,.string ⟨#[]⟩,.string ⟨#[]⟩,.string ⟨#[]⟩])).run Tryz.prog W = .ok (.bool false) W:=by
 have e:=eight l h8
 generalize l.getD 0 pwD = p0 at *
 generalize l.getD 1 pwD = p1 at *
 generalize l.getD 2 pwD = p2 at *
 generalize l.getD 3 pwD = p3 at *
 generalize l.getD 4 pwD = p4 at *
 generalize l.getD 5 pwD = p5 at *
 generalize l.getD 6 pwD = p6 at *
 generalize l.getD 7 pwD = p7 at *
 subst e
 exact eql_tab_no p0.nm p0.tx p1.nm p1.tx p2.nm p2.tx p3.nm p3.tx p4.nm p4.tx p5.nm p5.tx p6.nm p6.tx p7.nm p7.tx W h
theorem nilPair (w : World) (a : Option Addr) (n c n' c' : Nat) : (binOp .eql 51 (.slice a n c) (.slice none n' c')).run Tryz.prog w = .ok (.bool a.isNone) w:=Lib.run_eql_slice_nil w _ _ a n c n' c' Tryz.underlying51
theorem cloneP_any (ad : Addr) (n cap : Nat) (ps : List Pw) (w : World) (h : PwR w (some ad) n cap ps) (hn : n <= 1048576) :
 Calls Tryz.prog 57 #[.slice (some ad) n cap] w fun e w' => ∃ v,e = .returned v /\ w'.ownsRow w.heap.size 97 pwE.k v n (pwE.flat ps) /\ Below w.heap.size w w':=by
 obtain ⟨i1,hi1,hz1,hs1,hy1⟩:=info_parts infoPair
 have hnil:=nilPair
 have HR : Hid (PwR (w.alloc (.cells #[] 97)) (some ad) n cap ps):=qH (SR.below h ((Below.refl _ _).alloc (Nat.le_refl _) _))
 clear h
 have HO:=qH (own_made0 pwE w 97 (Nat.le_refl _))
 have HB:=qH ((Below.refl w.heap.size w).alloc (Nat.le_refl _) (.cells #[] 97))
 go_enter Tryz.func57,Tryz.ntmps57
 go_wp2_with (at_builtin;refine append_wl pwE pwD rfl _ _ 51 rfl 97 i1 _ 32 Tryz.underlying51 hi1 hz1 hs1 hy1 rfl (by decide) (by decide) w.heap.size _ 0 [] rfl HO.out _ n cap ps rfl HR.out HB.out.size (by omega) (by omega) ?_;intro v' w' ho hg;have HO1:=qH ho;have HB1:=qH (HB.out.grown hg HB.out.size (fun q hq => (HO.out.lt q hq).1));clear ho hg)
 go_ret
 exact ⟨_,rfl,by have:=HO1.out;rwa [Nat.zero_add,List.nil_append] at this,HB1.out⟩
theorem pw_box {u : World} {h : Nat} {l : List Pw} {n cap : Nat} (b : BoxC u h (pwE.flat l)) (hc : l.length = cap) (hn : n <= cap) (hp : 0 < cap) : PwR u (some ⟨h,0,none⟩) n cap (l.take n):=by
 refine ⟨by rw [List.length_take];omega,hn,(fun e => by cases e),fun h0 => ⟨h,0,rfl,b.lt,fun i hi j v hj => ?_⟩⟩
 have hjk : j < pwE.k:=by
  by_cases hj2 : j < pwE.k
  · exact hj2
  · rw [List.getElem?_eq_none (by rw [pwE.len];omega)] at hj;cases hj
 refine b.cell _ v ?_
 rw [Nat.zero_add,pwE.flat_at pwD l i j (by omega) hjk]
 rw [show (l.take n).getD i pwD = l.getD i pwD by simp [List.getD,List.getElem?_take,hi]] at hj
 exact hj
theorem tab_take (ma : ByteArray) (ts : List Tm) (is : List Im) : (tabL ma ts is is.length).take is.length = is.map (prD ma ts):=by
 unfold tabL
 rw [List.take_length,List.take_append_of_le_length (by simp)]
 rw [List.take_of_length_le (by simp)]
theorem allocT (w : World) : ∃ V,(∀ (f : Operand -> Value) (o : Oper),o.op = .alloc 99 -> (execOp f o).run Tryz.prog w = .ok (.value (.pointer (some ⟨w.heap.size,0,none⟩))) V) /\ (∃ zs : List Value,zs.length = 16 /\ BoxC V w.heap.size zs) /\ Below w.heap.size w V:=by
 refine ⟨w.alloc (.cells #[.string ⟨#[]⟩,.string ⟨#[]⟩,.string ⟨#[]⟩,.string ⟨#[]⟩,.string ⟨#[]⟩,.string ⟨#[]⟩,.string ⟨#[]⟩,.string ⟨#[]⟩,.string ⟨#[]⟩,.string ⟨#[]⟩,.string ⟨#[]⟩,.string ⟨#[]⟩,.string ⟨#[]⟩,.string ⟨#[]⟩,.string ⟨#[]⟩,.string ⟨#[]⟩] 99),fun f o ho => exec_alloc 99 ho (by go_simp),⟨_,rfl,BoxC.made _ _ _⟩,(Below.refl _ _).alloc (Nat.le_refl _) _⟩
def VP.data (p : VP) (ma : ByteArray) : List Pw:=dataL p.right ma p.c3 p.ts p.is
theorem VP.book {p : VP} (h : p.right = true) : bookB ⟨p.c0,p.c1,p.c2,p.c3,p.ts,p.is⟩ = true:=vault_book h
theorem book_many {b : Bk} (h : bookB b = true) : b.is.length <= 8:=by
 rcases bookB_of h with h | h
 · rw [(zeroK_iff.1 h).2.2];exact Nat.zero_le _
 · exact h.many
theorem book_name {b : Bk} (h : bookB b = true) {x : Im} (hx : x ∈ b.is) : 1 <= x.nm.size /\ x.nm.size <= 8:=by
 rcases bookB_of h with h | h
 · rw [(zeroK_iff.1 h).2.2] at hx;cases hx
 · have:=(h.item x hx).1
   unfold itemB at this
   simp only [Bool.and_eq_true] at this
   exact wordB_size this.1.1
theorem getD_in {l : List Im} {j : Nat} (h : j < l.length) : l.getD j imD ∈ l:=by rw [List.getD,List.getElem?_eq_getElem h];exact List.getElem_mem h
theorem implDataV {p : VP} {v : Value} {w : World} (ma : ByteArray) (h : VV p v w) (hgd : VGd p) (he : ET w) (hm : ma.size <= maxLen) :
 Calls Tryz.prog 13 #[v,.string ma] w fun e w' => ∃ a c,e = .returned (.slice a (p.data ma).length c) /\ w'.ownsRow w.heap.size 97 pwE.k (.slice a (p.data ma).length c) (p.data ma).length (pwE.flat (p.data ma)) /\ Below w.heap.size w w':=by
 obtain ⟨D,hD⟩ : ∃ D,p.data ma = D:=⟨_,rfl⟩
 rw [hD]
 have HD:=qH hD
 clear hD
 have HV:=qH h
 have HGD:=qH hgd
 have HE:=qH he
 have HM:=qH hm
 clear h hgd he hm
 obtain ⟨b1,b3,b2,b4,g1,g2,r1,r2,hva,hvr⟩:=HV.out
 have HR:=qH hvr
 have HVA:=qH hva
 clear hva hvr
 obtain ⟨W,hW⟩ : ∃ W,W = w.alloc (.cells (cellsV v) 47):=⟨_,rfl⟩
 have HB0 : Hid (Below w.heap.size w W):=qH (by rw [hW];exact (Below.refl _ _).alloc (Nat.le_refl _) _)
 have HBV : Hid (BV v W w.heap.size):=qH (by rw [hW];exact BV.made w HV.out.cells _)
 have HX : Hid (BoxC W w.heap.size [.string p.ds,.string p.dt,.int .i64 p.c0,.int .i64 p.c1,.int .i64 p.c2,.int .i64 p.c3,.slice b1 p.n1 b3,.slice b2 p.n2 b4,.bool p.op,.string p.ma,.slice g1 p.gn g2,.int .i64 p.no,.bool p.on,.int .i64 p.nd,.int .i64 p.mn,.slice r1 p.rn r2]):=qH (by rw [hW,HVA.out];exact BoxC.made _ _ _)
 have hmx : Tryz.prog.follows .mixedOrders = true:=by kernel_rfl
 have HVC : Hid (∀ u,Below W.heap.size W u -> Calls Tryz.prog 10 #[v] u fun e u' => e = .returned (.bool p.right) /\ Below u.heap.size u u'):=qH (fun u hu => implVaultRightV (HV.out.below (HB0.out.trans (hu.mono HB0.out.size))) HGD.out (HE.out.below (HB0.out.trans (hu.mono HB0.out.size))))
 go_enter Tryz.func13,Tryz.ntmps13
 go_upto_region 1 with (refine list_value rfl (exec_box (v:=v) 47 _ rfl rfl) ?_;simp only [pS,pN,List.set,zT,zZ,zU])
 rw [<- hW]
 clear hW HVA
 have HS0 : Hid (Below W.heap.size W W.drew):=qH (Below.refl _ _).drew
 obtain ⟨z,hz⟩ : ∃ z,p.right = z:=⟨_,rfl⟩
 rw [hz] at HVC
 refine HeldZ.region hmx (fun u => Below W.heap.size W u) (by kernel_rfl) HS0.out ?_
 with_reducible refine HeldZ.value (v:=v) rfl (fun u hu => exec_loadV (HBV.out.below hu) 47 _ rfl rfl (by kernel_rfl)) ?_
 simp only [pS,pN,List.set]
 with_reducible refine HeldZ.call (v:=.bool z) (f:=10) (args:=#[v]) rfl (fun u hu => by go_simp) (fun u hu => Calls.mono (HVC.out u hu) (by rintro e u2 ⟨rfl,hb⟩;exact ⟨rfl,hu.trans (hb.mono hu.size)⟩)) ?_
 simp only [pS,pN,List.set]
 cases z with
 | false =>
  obtain rfl : D = []:=by rw [<- HD.out];exact dataL_no (by unfold dataOk;rw [hz];rfl)
  iterate 2 (with_reducible refine HeldZ.value (v:=.bool true) rfl (fun u hu => by go_simp) ?_; simp only [pS, pN, List.set])
  iterate 7 (with_reducible refine HeldZ.no rfl ?_; simp only [pS, pN, List.set])
  with_reducible refine HeldZ.value (v:=.bool true) rfl (fun u hu => by go_simp) ?_
  simp only [pS,pN,List.set]
  refine HeldZ.nil ?_
  intro u hu
  have HU:=qH (HB0.out.trans (hu.mono HB0.out.size))
  clear hu
  go_wp2_with fail
  go_ret
  exact ⟨none,0,rfl,World.ownsRow_nil _ _ _ _,HU.out⟩
 | true =>
  iterate 2 (with_reducible refine HeldZ.value (v:=.bool false) rfl (fun u hu => by go_simp) ?_; simp only [pS, pN, List.set])
  with_reducible refine HeldZ.value (v:=.string ma) rfl (fun u hu => by go_simp) ?_
  simp only [pS,pN,List.set]
  with_reducible refine HeldZ.call (v:=.int .i64 (checkI ma)) (f:=55) (args:=#[.string ma]) rfl (fun u hu => by go_simp) (fun u hu => Calls.mono (implCheckOf_any ma u HM.out) (by rintro e u2 ⟨rfl,hb⟩;exact ⟨rfl,hu.trans (hb.mono hu.size)⟩)) ?_
  simp only [pS,pN,List.set]
  have HBK:=qH (VP.book hz)
  have HOK : Hid (p.data ma = if checkI ma = p.c3 then p.is.map (prD ma p.ts) else []):=qH (by
   unfold VP.data dataL dataOk
   rw [hz]
   simp)
  clear hz
  generalize hck : checkI ma = ck at *
  have HCK:=qH hck
  clear hck
  iterate 2 (with_reducible refine HeldZ.value (v:=.pointer (some ⟨w.heap.size,2,none⟩)) rfl (fun u hu => by go_simp) ?_; simp only [pS, pN, List.set])
  with_reducible refine HeldZ.value (v:=.pointer (some ⟨w.heap.size,5,none⟩)) rfl (fun u hu => by go_simp) ?_
  simp only [pS,pN,List.set]
  with_reducible refine HeldZ.value (v:=.int .i64 p.c3) rfl (fun u hu => by have z5:=(HX.out.below hu).cell 5 _ rfl;go_simp) ?_
  simp only [pS,pN,List.set]
  by_cases hne : ck = p.c3
  · have hb0 : (ck != p.c3) = false:=by rw [hne];simp
    iterate 2 (with_reducible refine HeldZ.value (v:=.bool false) rfl (fun u hu => by go_simp) ?_; simp only [pS, pN, List.set])
    refine HeldZ.nil ?_
    intro u hu
    have HU:=qH hu
    clear hu hb0
    have hD2 : D = p.is.map (prD ma p.ts):=by rw [<- HD.out,HOK.out,if_pos hne]
    have hsec : secR ma = true:=check_sec (by have:=book_c3 HBK.out;exact this) (HCK.out.trans hne)
    clear hne HOK
    have hil:=HR.out.b.i.len
    have hq : ∀ j,j < p.n2 -> KeyOk ma p.ts (p.is.getD j imD).tm (p.is.getD j imD).bd:=fun j hj => key_ok HBK.out hsec (getD_in (by rw [hil];exact hj))
    have hs : ∀ j,j < p.n2 -> 1 <= (p.is.getD j imD).nm.size /\ (p.is.getD j imD).nm.size <= 8:=fun j hj => book_name HBK.out (getD_in (by rw [hil];exact hj))
    have h8 : p.n2 <= 8:=by have:=book_many HBK.out;dsimp only at this;omega
    have HTO:=qH (tableOf_any p.c0 p.c1 p.c2 p.c3 b1 p.n1 b3 b2 p.n2 b4 p.ts p.is ma u (HR.out.b.below (HB0.out.trans (HU.out.mono HB0.out.size))) h8 hq (fun j hj => by have:=hs j hj;omega))
    have HTL : Hid ((tabL ma p.ts p.is p.n2).length = 8):=qH (tab_len (by omega) h8)
    have HTK : Hid ((tabL ma p.ts p.is p.n2).take p.n2 = D):=qH (by rw [hD2,<- hil];exact tab_take ma p.ts p.is)
    have HDL : Hid (D.length = p.n2):=qH (by rw [hD2,List.length_map,hil])
    have HNE : Hid (0 < p.n2 -> ¬ ((tabL ma p.ts p.is p.n2).getD 0 pwD).nm = ⟨#[]⟩):=qH (fun h0 hx => by
     have h1:=(hs 0 h0).1
     have h2 : (tabL ma p.ts p.is p.n2).getD 0 pwD = prD ma p.ts (p.is.getD 0 imD):=by
      have h3 : (tabL ma p.ts p.is p.n2).getD 0 pwD = ((tabL ma p.ts p.is p.n2).take p.n2).getD 0 pwD:=by simp [List.getD,List.getElem?_take,h0]
      rw [h3,HTK.out,hD2]
      simp [List.getD,List.getElem?_map,List.getElem?_eq_getElem (show 0 < p.is.length by omega)]
     rw [h2] at hx
     have : (p.is.getD 0 imD).nm = ⟨#[]⟩:=hx
     rw [this] at h1
     exact absurd h1 (by decide))
    have HZT : Hid (p.n2 = 0 -> pwE.flat (tabL ma p.ts p.is p.n2) = [.string ⟨#[]⟩,.string ⟨#[]⟩,.string ⟨#[]⟩,.string ⟨#[]⟩,.string ⟨#[]⟩,.string ⟨#[]⟩,.string ⟨#[]⟩,.string ⟨#[]⟩,.string ⟨#[]⟩,.string ⟨#[]⟩,.string ⟨#[]⟩,.string ⟨#[]⟩,.string ⟨#[]⟩,.string ⟨#[]⟩,.string ⟨#[]⟩,.string ⟨#[]⟩]):=qH (fun h0 => by rw [h0,tab_zero];rfl)
    clear hq hs hD2 hsec
    have HON:=qH (flat_one (tabL ma p.ts p.is p.n2))
    have HFL : Hid ((pwE.flat (tabL ma p.ts p.is p.n2)).length = 16):=qH (by rw [pwE.flat_length,HTL.out];rfl)
    have HEQ : Hid (∀ X : World,(binOp .eql 99 (.agg (pwE.flat (tabL ma p.ts p.is p.n2)).toArray) (.agg #[.string ⟨#[]⟩,.string ⟨#[]⟩,.string ⟨#[]⟩,.string ⟨#[]⟩,.string ⟨#[]⟩,.string ⟨#[]⟩,.string ⟨#[]⟩,.string ⟨#[]⟩,.string ⟨#[]⟩,.string ⟨#[]⟩,.string ⟨#[]⟩,.string ⟨#[]⟩,.string ⟨#[]⟩,.string ⟨#[]⟩,.string ⟨#[]⟩,.string ⟨#[]⟩])).run Tryz.prog X = .ok (.bool (decide (p.n2 = 0))) X):=qH (fun X => by
     by_cases h0 : p.n2 = 0
     · rw [HZT.out h0,decide_eq_true h0];exact eql_tab_yes X
     · rw [decide_eq_false h0];exact eql_flat_no _ HTL.out (HNE.out (by omega)) X)
    clear HNE HZT HBK
    have x2:=(HX.out.below HU.out).cell 2 _ rfl
    have x3:=(HX.out.below HU.out).cell 3 _ rfl
    have x4:=(HX.out.below HU.out).cell 4 _ rfl
    have x5:=(HX.out.below HU.out).cell 5 _ rfl
    have x6:=(HX.out.below HU.out).cell 6 _ rfl
    have x7:=(HX.out.below HU.out).cell 7 _ rfl
    go_wp2_with fail
    clear x2 x3 x4 x5 x6 x7
    refine HTO.out.mono ?_
    rintro e u1 ⟨rfl,hb⟩
    have HU1:=qH (HU.out.trans (hb.mono HU.out.size))
    clear hb HTO
    obtain ⟨V,hA,⟨zs,hz,hZ⟩,hVB⟩:=allocT u1
    have HAL:=qH hA
    have HZ:=qH hZ
    have HZL:=qH hz
    have HFB : Hid (BoxC (V.setCells u1.heap.size 0 (pwE.flat (tabL ma p.ts p.is p.n2))) u1.heap.size (pwE.flat (tabL ma p.ts p.is p.n2))):=qH (box_setCells hZ _ (by rw [HFL.out,hz]))
    have hYB : Below u1.heap.size u1 (V.setCells u1.heap.size 0 (pwE.flat (tabL ma p.ts p.is p.n2))):=grown_below hVB (setCells_grown _ _ _ _) (Nat.le_refl _) hVB.size
    have HU2:=qH (HU1.out.trans (hYB.mono HU1.out.size))
    have HPW:=qH (pw_box HFB.out HTL.out h8 (by decide))
    rw [HTK.out] at HPW
    clear hA hz hZ hVB hYB HTK HTL
    generalize pwE.flat (tabL ma p.ts p.is p.n2) = fl at *
    have heq:=HEQ.out
    have HX2:=qH (HX.out.below HU2.out)
    by_cases h0 : p.n2 = 0
    · have hd : decide (p.n2 = 0) = true:=decide_eq_true h0
      rw [hd] at heq
      obtain rfl : D = []:=List.eq_nil_of_length_eq_zero (by rw [HDL.out,h0])
      go_upto_region 5 with (first | (refine list_store HZ.out 99 _ _ 16 rfl rfl rfl rfl HZL.out HFL.out HON.out (by kernel_rfl) ?_;simp only [pS,pN,List.set,zT,zZ,zU]) | (refine list_load HFB.out 99 _ 16 rfl rfl rfl HFL.out (by kernel_rfl) ?_;simp only [pS,pN,List.set,zT,zZ,zU]) | (refine list_value rfl (HAL.out _ _ rfl) ?_;simp only [pS,pN,List.set,zT,zZ,zU]))
      go_wp2_with fail
      go_ret
      exact ⟨none,0,rfl,World.ownsRow_nil _ _ _ _,HB0.out.trans (HU2.out.mono HB0.out.size)⟩
    · have hd : decide (p.n2 = 0) = false:=decide_eq_false h0
      rw [hd] at heq
      have x7:=HX2.out.cell 7 _ rfl
      have hle : 0 <= (p.n2 : Int) /\ (p.n2 : Int) <= 8:=by omega
      go_wp2_with (first | (refine list_store HZ.out 99 _ _ 16 rfl rfl rfl rfl HZL.out HFL.out HON.out (by kernel_rfl) ?_;simp only [pS,pN,List.set,zT,zZ,zU]) | (refine list_load HFB.out 99 _ 16 rfl rfl rfl HFL.out (by kernel_rfl) ?_;simp only [pS,pN,List.set,zT,zZ,zU]) | (refine list_value rfl (HAL.out _ _ rfl) ?_;simp only [pS,pN,List.set,zT,zZ,zU]))
      refine (cloneP_any ⟨u1.heap.size,0,none⟩ p.n2 8 D _ HPW.out (by omega)).mono ?_
      rintro e u3 ⟨vr,rfl,ho,hb⟩
      obtain ⟨ra,rc,rfl⟩:=own_shape ho
      have HOR:=qH (own_mono ho (Nat.le_trans HB0.out.size HU2.out.size))
      have HU3:=qH (HU2.out.trans (hb.mono HU2.out.size))
      clear ho hb x7
      go_wp2_with fail
      go_ret
      exact ⟨ra,rc,by rw [HDL.out];rfl,by rw [HDL.out];exact HOR.out,HB0.out.trans (HU3.out.mono HB0.out.size)⟩
  · have hb0 : (ck != p.c3) = true:=by simpa using hne
    iterate 2 (with_reducible refine HeldZ.value (v:=.bool true) rfl (fun u hu => by go_simp) ?_; simp only [pS, pN, List.set])
    obtain rfl : D = []:=by rw [<- HD.out,HOK.out,if_neg hne]
    refine HeldZ.nil ?_
    intro u hu
    have HU:=qH (HB0.out.trans (hu.mono HB0.out.size))
    clear hu
    go_wp2_with fail
    go_ret
    exact ⟨none,0,rfl,World.ownsRow_nil _ _ _ _,HU.out⟩
theorem BV.grown {v : Value} {u u' : World} {h : Nat} {row : Option Nat} (b : BV v u h) (hg : u.grownBy u' row) (hr : some h ≠ row) : BV v u' h:=by
 obtain ⟨cs,h1,h2,h3⟩:=b
 exact ⟨cs,h1,h2,h3.grown hg hr⟩
theorem take_snoc {ma : ByteArray} {ts : List Tm} {is : List Im} {k : Nat} (hk : k < is.length) : (is.take k).map (prD ma ts) ++ [prD ma ts (is.getD k imD)] = (is.take (k + 1)).map (prD ma ts):=by
 have h2 : is.take (k + 1) = is.take k ++ [is.getD k imD]:=by
  rw [show is.getD k imD = is[k] by simp [List.getD,List.getElem?_eq_getElem hk]]
  exact (List.take_append_getElem hk).symm
 rw [h2,List.map_append]
 rfl
theorem specDataV {p : VP} {v : Value} {w : World} (ma : ByteArray) (h : VV p v w) (hgd : VGd p) (hm : ma.size <= maxLen) :
 Calls Tryz.prog 12 #[v,.string ma] w fun e w' => ∃ a c,e = .returned (.slice a (p.data ma).length c) /\ w'.ownsRow w.heap.size 97 pwE.k (.slice a (p.data ma).length c) (p.data ma).length (pwE.flat (p.data ma)) /\ Below w.heap.size w w':=by
 obtain ⟨D,hD⟩ : ∃ D,p.data ma = D:=⟨_,rfl⟩
 rw [hD]
 have HD:=qH hD
 clear hD
 have HV:=qH h
 have HGD:=qH hgd
 have HM:=qH hm
 clear h hgd hm
 obtain ⟨b1,b3,b2,b4,g1,g2,r1,r2,hva,hvr⟩:=HV.out
 have HR:=qH hvr
 have HVA:=qH hva
 clear hva hvr
 obtain ⟨i1,hi1,hz1,hs1,hy1⟩:=info_parts infoPair
 obtain ⟨W,hW⟩ : ∃ W,W = w.alloc (.cells (cellsV v) 47):=⟨_,rfl⟩
 have HB0 : Hid (Below w.heap.size w W):=qH (by rw [hW];exact (Below.refl _ _).alloc (Nat.le_refl _) _)
 have HWS : Hid (W.heap.size = w.heap.size + 1):=qH (by rw [hW];simp)
 have HBV0 : Hid (BV v W w.heap.size):=qH (by rw [hW];exact BV.made w HV.out.cells _)
 have HX0 : Hid (BoxC W w.heap.size [.string p.ds,.string p.dt,.int .i64 p.c0,.int .i64 p.c1,.int .i64 p.c2,.int .i64 p.c3,.slice b1 p.n1 b3,.slice b2 p.n2 b4,.bool p.op,.string p.ma,.slice g1 p.gn g2,.int .i64 p.no,.bool p.on,.int .i64 p.nd,.int .i64 p.mn,.slice r1 p.rn r2]):=qH (by rw [hW,HVA.out];exact BoxC.made _ _ _)
 have hmx : Tryz.prog.follows .mixedOrders = true:=by kernel_rfl
 go_enter Tryz.func12,Tryz.ntmps12
 go_upto_region 1 with (refine list_value rfl (exec_box (v:=v) 47 _ rfl rfl) ?_;simp only [pS,pN,List.set,zT,zZ,zU])
 rw [<- hW]
 clear hW HVA
 obtain ⟨X,hX⟩ : ∃ X,X = W.alloc (.cells #[] 97):=⟨_,rfl⟩
 have hXB : Below W.heap.size W X:=by rw [hX];exact (Below.refl _ _).alloc (Nat.le_refl _) _
 have HO0 : Hid (X.ownsRow W.heap.size 97 pwE.k (.slice (some ⟨W.heap.size,0,none⟩) 0 0) 0 (pwE.flat [])):=qH (by rw [hX];exact own_made0 pwE W 97 (Nat.le_refl _))
 have HBV:=qH (HBV0.out.below hXB)
 have HX:=qH (HX0.out.below hXB)
 have HB1:=qH (HB0.out.trans (hXB.mono HB0.out.size))
 have HXS : Hid (W.heap.size <= X.heap.size):=qH hXB.size
 clear hXB HBV0 HX0
 go_upto_region 2 with fail
 rw [<- hX]
 clear hX
 have HVC : Hid (∀ u,Below X.heap.size X u -> Calls Tryz.prog 8 #[v] u fun e u' => e = .returned (.bool p.right) /\ Below u.heap.size u u'):=qH (fun u hu => specVaultRightV (HV.out.below (HB1.out.trans (hu.mono HB1.out.size))) HGD.out)
 have HS0 : Hid (Below X.heap.size X X.drew):=qH (Below.refl _ _).drew
 obtain ⟨z,hz⟩ : ∃ z,p.right = z:=⟨_,rfl⟩
 rw [hz] at HVC
 obtain ⟨zc,hzc⟩ : ∃ zc,eqConf2 p.c0 p.c1 p.c2 p.c3 0 0 0 0 = zc:=⟨_,rfl⟩
 have heq : ∀ W : World,(binOp .eql 38 (.agg #[.int .i64 p.c0,.int .i64 p.c1,.int .i64 p.c2,.int .i64 p.c3]) (.agg #[.int .i64 0,.int .i64 0,.int .i64 0,.int .i64 0])).run Tryz.prog W = .ok (.bool zc) W:=fun W => by rw [<- hzc];exact eql_conf2 p.c0 p.c1 p.c2 p.c3 0 0 0 0 W
 have HZC:=qH hzc
 clear hzc
 refine HeldZ.region hmx (fun u => Below X.heap.size X u) (by kernel_rfl) HS0.out ?_
 with_reducible refine HeldZ.value (v:=v) rfl (fun u hu => exec_loadV (HBV.out.below hu) 47 _ rfl rfl (by kernel_rfl)) ?_
 simp only [pS,pN,List.set]
 with_reducible refine HeldZ.call (v:=.bool z) (f:=8) (args:=#[v]) rfl (fun u hu => by go_simp) (fun u hu => Calls.mono (HVC.out u hu) (by rintro e u2 ⟨rfl,hb⟩;exact ⟨rfl,hu.trans (hb.mono hu.size)⟩)) ?_
 simp only [pS,pN,List.set]
 clear HVC
 cases z with
 | false =>
  obtain rfl : D = []:=by rw [<- HD.out];exact dataL_no (by unfold dataOk;rw [hz];rfl)
  iterate 2 (with_reducible refine HeldZ.value (v:=.bool true) rfl (fun u hu => by go_simp) ?_; simp only [pS, pN, List.set])
  iterate 5 (with_reducible refine HeldZ.no rfl ?_; simp only [pS, pN, List.set])
  iterate 2 (with_reducible refine HeldZ.value (v:=.bool true) rfl (fun u hu => by go_simp) ?_; simp only [pS, pN, List.set])
  iterate 7 (with_reducible refine HeldZ.no rfl ?_; simp only [pS, pN, List.set])
  with_reducible refine HeldZ.value (v:=.bool true) rfl (fun u hu => by go_simp) ?_
  simp only [pS,pN,List.set]
  refine HeldZ.nil ?_
  intro u hu
  have HU:=qH (HB1.out.trans (hu.mono HB1.out.size))
  have HOU:=qH (own_mono (own_below HO0.out hu) HB0.out.size)
  clear hu heq
  go_wp2_with fail
  go_ret
  exact ⟨_,_,rfl,HOU.out,HU.out⟩
 | true =>
  iterate 2 (with_reducible refine HeldZ.value (v:=.bool false) rfl (fun u hu => by go_simp) ?_; simp only [pS, pN, List.set])
  iterate 2 (with_reducible refine HeldZ.value (v:=.pointer (some ⟨w.heap.size,2,none⟩)) rfl (fun u hu => by go_simp) ?_; simp only [pS, pN, List.set])
  with_reducible refine HeldZ.value (v:=.agg #[.int .i64 p.c0,.int .i64 p.c1,.int .i64 p.c2,.int .i64 p.c3]) rfl (fun u hu => by have z2:=(HX.out.below hu).cell 2 _ rfl;have z3:=(HX.out.below hu).cell 3 _ rfl;have z4:=(HX.out.below hu).cell 4 _ rfl;have z5:=(HX.out.below hu).cell 5 _ rfl;go_simp) ?_
  simp only [pS,pN,List.set]
  with_reducible refine HeldZ.value (v:=.agg #[.int .i64 0,.int .i64 0,.int .i64 0,.int .i64 0]) rfl (fun u hu => by go_simp) ?_
  simp only [pS,pN,List.set]
  iterate 3 (with_reducible refine HeldZ.value (v:=.bool zc) rfl (fun u hu => by go_simp) ?_; simp only [pS, pN, List.set])
  have HBK:=qH (VP.book hz)
  have HOK : Hid (p.data ma = if checkI ma = p.c3 then p.is.map (prD ma p.ts) else []):=qH (by
   unfold VP.data dataL dataOk
   rw [hz]
   simp)
  clear hz
  cases zc with
  | true =>
   obtain rfl : D = []:=by
    have h1 : p.c0 = 0:=(of_decide_eq_true (show decide _ = true from HZC.out)).1
    rw [<- HD.out,HOK.out]
    rcases bookB_of HBK.out with h | h
    · have:=(zeroK_iff.1 h).2.2
      dsimp only at this
      rw [this]
      simp
    · have:=(confB_iff.1 h.conf).1.1
      dsimp only at this
      omega
   iterate 7 (with_reducible refine HeldZ.no rfl ?_; simp only [pS, pN, List.set])
   with_reducible refine HeldZ.value (v:=.bool true) rfl (fun u hu => by go_simp) ?_
   simp only [pS,pN,List.set]
   refine HeldZ.nil ?_
   intro u hu
   have HU:=qH (HB1.out.trans (hu.mono HB1.out.size))
   have HOU:=qH (own_mono (own_below HO0.out hu) HB0.out.size)
   clear hu heq
   go_wp2_with fail
   go_ret
   exact ⟨_,_,rfl,HOU.out,HU.out⟩
  | false =>
   with_reducible refine HeldZ.value (v:=.string ma) rfl (fun u hu => by go_simp) ?_
   simp only [pS,pN,List.set]
   with_reducible refine HeldZ.call (v:=.int .i64 (checkI ma)) (f:=36) (args:=#[.string ma]) rfl (fun u hu => by go_simp) (fun u hu => Calls.mono (specCheckOf_any ma u HM.out) (by rintro e u2 ⟨rfl,rfl⟩;exact ⟨rfl,hu⟩)) ?_
   simp only [pS,pN,List.set]
   generalize hck : checkI ma = ck at *
   have HCK:=qH hck
   clear hck
   iterate 2 (with_reducible refine HeldZ.value (v:=.pointer (some ⟨w.heap.size,2,none⟩)) rfl (fun u hu => by go_simp) ?_; simp only [pS, pN, List.set])
   with_reducible refine HeldZ.value (v:=.pointer (some ⟨w.heap.size,5,none⟩)) rfl (fun u hu => by go_simp) ?_
   simp only [pS,pN,List.set]
   with_reducible refine HeldZ.value (v:=.int .i64 p.c3) rfl (fun u hu => by have z5:=(HX.out.below hu).cell 5 _ rfl;go_simp) ?_
   simp only [pS,pN,List.set]
   by_cases hne : ck = p.c3
   · have hb0 : (ck != p.c3) = false:=by rw [hne];simp
     iterate 2 (with_reducible refine HeldZ.value (v:=.bool false) rfl (fun u hu => by go_simp) ?_; simp only [pS, pN, List.set])
     refine HeldZ.nil ?_
     intro u hu
     have HU:=qH hu
     clear hu hb0 heq
     have hD2 : D = p.is.map (prD ma p.ts):=by rw [<- HD.out,HOK.out,if_pos hne]
     have hsec : secR ma = true:=check_sec (by have:=book_c3 HBK.out;exact this) (HCK.out.trans hne)
     clear hne HOK
     have hil:=HR.out.b.i.len
     have HLN:=qH hil
     have HQ : Hid (∀ j,j < p.n2 -> KeyOk ma p.ts (p.is.getD j imD).tm (p.is.getD j imD).bd):=qH (fun j hj => key_ok HBK.out hsec (getD_in (by rw [hil];exact hj)))
     have h8 : p.n2 <= 8:=by have:=book_many HBK.out;dsimp only at this;omega
     have HDE : Hid (D = (p.is.take p.n2).map (prD ma p.ts)):=qH (by rw [hD2,<- hil,List.take_length])
     have HDL : Hid (D.length = p.n2):=qH (by rw [hD2,List.length_map,hil])
     clear hil hsec hD2 HBK HCK HV
     obtain ⟨vm,hvm⟩ : ∃ vm : Value,vm = .agg #[.string p.ds,.string p.dt,.int .i64 p.c0,.int .i64 p.c1,.int .i64 p.c2,.int .i64 p.c3,.slice b1 p.n1 b3,.slice b2 p.n2 b4,.bool p.op,.string ma,.slice g1 p.gn g2,.int .i64 p.no,.bool p.on,.int .i64 p.nd,.int .i64 p.mn,.slice r1 p.rn r2]:=⟨_,rfl⟩
     have x9:=(HX.out.below HU.out).cell 9 _ rfl
     have f9:=(HX.out.below HU.out).free 9
     obtain ⟨Y,hY⟩ : ∃ Y,Y = u.setCell ⟨w.heap.size,9,none⟩ (.string ma):=⟨_,rfl⟩
     have hG : World.grownBy u Y (some w.heap.size):=by rw [hY];exact set_grown _ _ _ _
     have hYX : BoxC Y w.heap.size [.string p.ds,.string p.dt,.int .i64 p.c0,.int .i64 p.c1,.int .i64 p.c2,.int .i64 p.c3,.slice b1 p.n1 b3,.slice b2 p.n2 b4,.bool p.op,.string ma,.slice g1 p.gn g2,.int .i64 p.no,.bool p.on,.int .i64 p.nd,.int .i64 p.mn,.slice r1 p.rn r2]:=by rw [hY];exact (HX.out.below HU.out).set (j:=9) (by simp) (.string ma)
     have HYX:=qH hYX
     have HYV : Hid (BV vm Y w.heap.size):=qH ⟨_,rfl,hvm,hYX⟩
     have HYB : Hid (Below w.heap.size w Y):=qH (grown_below (HB1.out.trans (HU.out.mono HB1.out.size)) hG (Nat.le_refl _) (HB1.out.trans (HU.out.mono HB1.out.size)).size)
     have HYO : Hid (Y.ownsRow W.heap.size 97 pwE.k (.slice (some ⟨W.heap.size,0,none⟩) 0 0) 0 (pwE.flat ((p.is.take 0).map (prD ma p.ts)))):=qH (own_far (own_below HO0.out HU.out) hG (by have:=HWS.out;omega))
     have HYS : Hid (W.heap.size <= Y.heap.size):=qH (Nat.le_trans HXS.out (Nat.le_trans HU.out.size hG.size))
     have HKEY : Hid (∀ (u : World) (j : Nat),j < p.n2 -> Below w.heap.size w u -> Calls Tryz.prog 54 #[vm,.int .i64 (p.is.getD j imD).tm] u fun e u' => e = .returned (.string (keyD ma p.ts (p.is.getD j imD).tm)) /\ Below u.heap.size u u'):=qH (fun u j hj hu => by rw [hvm];exact l09Key_any p.ds p.dt p.c0 p.c1 p.c2 p.c3 p.op ma p.no p.on p.nd p.mn b1 p.n1 b3 b2 p.n2 b4 p.ts g1 p.gn g2 r1 p.rn r2 _ _ u (SR.below HR.out.b.t hu) (HQ.out j hj))
     clear hYX hG hvm HO0 HU HX HBV HB1
     go_upto_region 5 with fail
     rw [<- hY]
     clear hY x9 f9
     go_wp2_with fail
     go_loopw [5,6] (fun q i wr => ∃ k : Nat,k <= p.n2 /\ i = .int .i64 k /\ Hid (wr.ownsRow W.heap.size 97 pwE.k q k (pwE.flat ((p.is.take k).map (prD ma p.ts)))) /\ Hid (BoxC wr w.heap.size [.string p.ds,.string p.dt,.int .i64 p.c0,.int .i64 p.c1,.int .i64 p.c2,.int .i64 p.c3,.slice b1 p.n1 b3,.slice b2 p.n2 b4,.bool p.op,.string ma,.slice g1 p.gn g2,.int .i64 p.no,.bool p.on,.int .i64 p.nd,.int .i64 p.mn,.slice r1 p.rn r2]) /\ Hid (BV vm wr w.heap.size) /\ Hid (Below w.heap.size w wr) /\ Hid (W.heap.size <= wr.heap.size)) (fun _ i _ => p.n2 - (intOf i).toNat)
     case atStart => exact ⟨0,Nat.zero_le _,rfl,HYO,HYX,HYV,HYB,HYS⟩
     case round =>
      clear HYO HYX HYV HYB HYS
      obtain ⟨k,hk,rfl,HQR,HBX,HBM,HB,HSZ⟩:=hrel
      obtain ⟨qa,qc,rfl⟩:=own_shape HQR.out
      have x7:=HBX.out.cell 7 _ rfl
      by_cases hlt : k < p.n2
      · obtain ⟨g,oo,hga,hg,hc0,hc1,hc2⟩:=ImR.at (SR.below HR.out.b.i HB.out) hlt
        subst hga
        have hts:=take_snoc (ma:=ma) (ts:=p.ts) (is:=p.is) (k:=k) (by rw [HLN.out];exact hlt)
        rw [show prD ma p.ts (p.is.getD k imD) = ⟨(p.is.getD k imD).nm,txtD ma p.ts (p.is.getD k imD).tm (p.is.getD k imD).bd⟩ from rfl] at hts
        have hqk:=HQ.out k hlt
        have hkey:=fun u hu => HKEY.out u k hlt hu
        have hin : 0 <= (k : Int) /\ (k : Int) < (p.n2 : Int):=by omega
        have HTX:=qH (show lkS (keyD ma p.ts (p.is.getD k imD).tm) 0 (p.is.getD k imD).bd = txtD ma p.ts (p.is.getD k imD).tm (p.is.getD k imD).bd from rfl)
        have hks:=hqk.key
        have hbs:=hqk.hbd
        generalize (p.is.getD k imD).nm = nm at *
        generalize (p.is.getD k imD).tm = tm at *
        generalize (p.is.getD k imD).bd = bd at *
        generalize txtD ma p.ts tm bd = tx at *
        generalize keyD ma p.ts tm = key at *
        have HKY:=qH hkey
        have HTS:=qH hts
        have HLK : Hid (∀ u : World,Calls Tryz.prog 53 #[.string key,.int .i64 0,.string bd] u fun e u' => e = .returned (.string tx) /\ Below u.heap.size u u'):=qH (fun u => by have:=l06Lock_any key 0 bd u hks.1 hks.2 (by omega) (by omega);rw [HTX.out] at this;exact this)
        clear hkey hts hqk hks hbs HTX
        go_upto_region 9 with fail
        obtain ⟨V,hV⟩ : ∃ V,V = wr.alloc (.cells #[.string nm,.int .i64 tm,.string bd] 93):=⟨_,rfl⟩
        have HX : Hid (BoxC V wr.heap.size [.string nm,.int .i64 tm,.string bd]):=qH (by rw [hV];exact BoxC.made _ _ _)
        have HVB : Hid (Below wr.heap.size wr V):=qH (by rw [hV];exact (Below.refl _ _).alloc (Nat.le_refl _) _)
        rw [<- hV]
        clear hV hc0 hc1 hc2 x7
        have HUB : Hid (∀ u,Below V.heap.size V u -> Below wr.heap.size wr u):=qH (fun u hu => HVB.out.trans (hu.mono HVB.out.size))
        have HSO : Hid (∀ u,Below V.heap.size V u -> (BV vm u w.heap.size /\ BoxC u wr.heap.size [.string nm,.int .i64 tm,.string bd])):=qH (fun u hu => ⟨HBM.out.below (HUB.out u hu),HX.out.below hu⟩)
        refine TillZ.region (t:=13) hmx (fun u => BV vm u w.heap.size /\ BoxC u wr.heap.size [.string nm,.int .i64 tm,.string bd]) ?_
        have hW0 : Below V.heap.size V V.drew:=(Below.refl _ _).drew
        have hS0:=HSO.out _ hW0
        refine TillZ.take4 (i:=0) (v:=.slice qa k qc) rfl rfl rfl (by kernel_rfl) hS0 (fun u hu => by go_simp) ?_
        simp only [pS,pN,List.set,zT,zZ,zU]
        refine TillZ.take4 (i:=1) (v:=.pointer (some ⟨wr.heap.size,0,none⟩)) rfl rfl rfl (by kernel_rfl) hS0 (fun u hu => by go_simp) ?_
        simp only [pS,pN,List.set,zT,zZ,zU]
        refine TillZ.take4 (i:=2) (v:=.string nm) rfl rfl rfl (by kernel_rfl) hS0 (fun u hu => by have z:=hu.2.cell 0 _ rfl;go_simp) ?_
        simp only [pS,pN,List.set,zT,zZ,zU]
        refine TillZ.take4 (i:=3) (v:=vm) rfl rfl rfl (by kernel_rfl) hS0 (fun u hu => exec_loadV hu.1 47 _ rfl rfl (by kernel_rfl)) ?_
        simp only [pS,pN,List.set,zT,zZ,zU]
        refine TillZ.take4 (i:=4) (v:=.pointer (some ⟨wr.heap.size,1,none⟩)) rfl rfl rfl (by kernel_rfl) hS0 (fun u hu => by go_simp) ?_
        simp only [pS,pN,List.set,zT,zZ,zU]
        refine TillZ.take4 (i:=5) (v:=.int .i64 tm) rfl rfl rfl (by kernel_rfl) hS0 (fun u hu => by have z:=hu.2.cell 1 _ rfl;go_simp) ?_
        simp only [pS,pN,List.set,zT,zZ,zU]
        refine TillZ.take4 (i:=7) (v:=.pointer (some ⟨wr.heap.size,2,none⟩)) rfl rfl rfl (by kernel_rfl) hS0 (fun u hu => by go_simp) ?_
        simp only [pS,pN,List.set,zT,zZ,zU]
        refine TillZ.take4 (i:=8) (v:=.string bd) rfl rfl rfl (by kernel_rfl) hS0 (fun u hu => by have z:=hu.2.cell 2 _ rfl;go_simp) ?_
        simp only [pS,pN,List.set,zT,zZ,zU]
        generalize V.drew = u0 at hW0 hS0 ⊢
        clear hS0
        refine TillZ.call (i:=6) (f:=54) (args:=#[vm,.int .i64 tm]) (by kernel_rfl) rfl rfl rfl (by go_simp) ?_
        refine Calls.mono (HKY.out u0 (HB.out.trans ((HUB.out _ hW0).mono HB.out.size))) ?_
        rintro e u1 ⟨rfl,hb⟩
        have hw1:=hW0.trans (hb.mono hW0.size)
        clear hb
        refine ⟨_,rfl,HSO.out _ hw1,?_⟩
        simp only [pS,pN,List.set,zT,zZ,zU]
        refine TillZ.call (i:=9) (f:=53) (args:=#[.string key,.int .i64 0,.string bd]) (by kernel_rfl) rfl rfl rfl (by go_simp) ?_
        refine Calls.mono (HLK.out u1) ?_
        rintro e u2 ⟨rfl,hb⟩
        have hw2:=hw1.trans (hb.mono hw1.size)
        clear hb
        refine ⟨_,rfl,HSO.out _ hw2,?_⟩
        simp only [pS,pN,List.set,zT,zZ,zU]
        refine TillZ.value (i:=10) (v:=.agg #[.string nm,.string tx]) (by kernel_rfl) rfl rfl rfl (by go_simp) (HSO.out _ hw2) ?_
        simp only [pS,pN,List.set,zT,zZ,zU]
        refine TillZ.one (i:=11) (by kernel_rfl) ?_
        refine TillZ.opz (i:=11) (v:=.slice (some ⟨u2.heap.size,0,none⟩) 1 1) (w':=u2.alloc (.cells #[.string nm,.string tx] 97)) rfl rfl rfl (by go_simp) (HSO.out _ (hw2.alloc hw2.size _)) ?_
        simp only [pS,pN,List.set,zT,zZ,zU]
        obtain ⟨Z,hZ⟩ : ∃ Z,Z = u2.alloc (.cells #[.string nm,.string tx] 97):=⟨_,rfl⟩
        have hZB : Below u2.heap.size u2 Z:=by rw [hZ];exact (Below.refl _ _).alloc (Nat.le_refl _) _
        have hL : SR pwE pwD Z (some ⟨u2.heap.size,0,none⟩) 1 1 [⟨nm,tx⟩]:=by rw [hZ];exact SR.own (by decide) (World.ownsRow_lit u2 #[.string nm,.string tx] 1 (Nat.le_refl _) (by decide) rfl)
        rw [<- hZ]
        have hw3:=hw2.trans (hZB.mono hw2.size)
        have hbr:=HUB.out _ hw3
        have hO:=own_below HQR.out hbr
        have hS3:=HSO.out _ hw3
        have HB3:=qH (HB.out.trans (hbr.mono HB.out.size))
        have HX3:=qH (HBX.out.below hbr)
        have HS3:=qH (Nat.le_trans HSZ.out hbr.size)
        have hlow : ∀ q,(Value.slice qa k qc).ownBlock = some q -> W.heap.size <= q /\ q < wr.heap.size:=fun q hq => HQR.out.lt q hq
        clear hZ hZB hw2 hw1 hW0
        refine TillZ.one (i:=12) (by kernel_rfl) ?_
        refine append_opz pwE pwD (i:=12) (.tmp 45) (.tmp 56) 51 rfl rfl rfl rfl 97 i1 _ 32 Tryz.underlying51 hi1 hz1 hs1 hy1 rfl (by decide) (by decide) W.heap.size _ k ((p.is.take k).map (prD ma p.ts)) rfl hO _ 1 1 [⟨nm,tx⟩] rfl hL HS3.out (by omega) (by omega) (fun v2 uz O2 G2 => ?_)
        simp only [pS,pN,List.set,zT,zZ,zU]
        have hwz : w.heap.size < W.heap.size:=by have:=HWS.out;omega
        have hne1 : some w.heap.size ≠ (Value.slice qa k qc).ownBlock:=fun e => by have:=(hlow _ e.symm).1;omega
        have hne2 : some wr.heap.size ≠ (Value.slice qa k qc).ownBlock:=fun e => Nat.lt_irrefl _ (hlow _ e.symm).2
        have hsz : BV vm uz w.heap.size /\ BoxC uz wr.heap.size [.string nm,.int .i64 tm,.string bd]:=⟨hS3.1.grown G2 hne1,hS3.2.grown G2 hne2⟩
        obtain ⟨a2,c2,rfl⟩:=own_shape O2
        have HNX:=qH (HX3.out.grown G2 hne1)
        have HNV:=qH hsz.1
        have HNB : Hid (Below w.heap.size w uz):=qH (HB3.out.grown G2 HB3.out.size (fun q hq => by have:=(hlow q hq).1;omega))
        have HNS:=qH (Nat.le_trans HS3.out G2.size)
        rw [HTS.out] at O2
        have HNO:=qH O2
        refine ⟨hsz,?_⟩
        clear O2 G2 hsz hO hL hS3 hbr hlow hne1 hne2
        refine TillZ.hand (v:=.slice a2 (k + 1) c2) (by kernel_rfl) rfl rfl (by go_simp) ?_
        simp only [pS,pN,List.set,zT,zZ,zU]
        refine TillZ.any_done (by kernel_rfl) ?_ _
        go_wp2_with fail
        go_roundw
        case rel => exact ⟨k + 1,by omega,by go_num,HNO,HNX,HNV,HNB,HNS⟩
        case measure => simp [intOf];omega
      · obtain rfl : k = p.n2:=by omega
        have hge : ¬ (p.n2 : Int) < (p.n2 : Int):=by omega
        have HNO:=qH (own_mono HQR.out HB0.out.size)
        rw [<- HDE.out] at HNO
        go_wp2_with fail
        go_ret
        exact ⟨qa,qc,by rw [HDL.out];rfl,by rw [HDL.out];exact HNO.out,HB.out⟩
   · have hb0 : (ck != p.c3) = true:=by simpa using hne
     iterate 2 (with_reducible refine HeldZ.value (v:=.bool true) rfl (fun u hu => by go_simp) ?_; simp only [pS, pN, List.set])
     obtain rfl : D = []:=by rw [<- HD.out,HOK.out,if_neg hne]
     refine HeldZ.nil ?_
     intro u hu
     have HU:=qH (HB1.out.trans (hu.mono HB1.out.size))
     have HOU:=qH (own_mono (own_below HO0.out hu) HB0.out.size)
     clear hu heq
     go_wp2_with fail
     go_ret
     exact ⟨_,_,rfl,HOU.out,HU.out⟩
theorem data_len {p : VP} {v : Value} {u : World} (ma : ByteArray) (h : VV p v u) (hg : VGd p) : (p.data ma).length <= 1048576:=by
 obtain ⟨b1,b3,b2,b4,g1,g2,r1,r2,_,hr⟩:=h
 have h1:=hr.b.i.len
 have h2:=hg.v.n.2.1
 unfold VP.data dataL
 split
 · rw [List.length_map];omega
 · exact Nat.zero_le _
end Go.Proofs.YtgafndgnmadcfaaGreatDoor
