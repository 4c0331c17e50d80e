/- Used by the law. -/
import Derived.Test.YtbgoldeopmlbnaaGreatDoorQB16
import Derived.Test.YtbgoldeopmlbnaaGreatDoorQB18
set_option maxRecDepth 100000
set_option maxHeartbeats 16000000
namespace Go.Proofs.YtbgoldeopmlbnaaGreatDoor
open Go.RowKit Go.PlainAid G IRow MJoin
set_option linter.unusedVariables false
theorem look1_any {is : List Im} (hr : RiseI is) {x : Im} (hx : x ∈ is) {u : World} {M n : Nat} (hown : u.ownsMap Tryz.prog 9 imR M n (mapI is)) (hq : x.nm.size <= maxLen) :
 (Instr.lookup 134 (.map (some M)) (.string x.nm) false).run Tryz.prog u = .ok (.agg #[.string x.nm,.int .i64 x.tm,.string x.bd]) u:=by
 obtain ⟨v,ps,hrun,hv⟩:=hown.lookup keyS Tryz.underlying134 (zeroItem u) (zd:=imDat ⟨⟨#[]⟩,0,⟨#[]⟩⟩) (zp:=[]) rfl (imKey_of hq)
 rw [at_mapI hr hx] at hv
 rw [hrun,imR_inv hv]
theorem joined_at (x : ByteArray) (p : Nat) (w : World) (hp : p < w.heap.size) (hc : w.cell? ⟨p,0,none⟩ = some (.string x)) (hx : x.size <= 1000000000) :
 Calls Tryz.prog 35 #[.slice (some ⟨p,0,none⟩) 1 1] w fun e w' => e = .returned (.string x) /\ Below w.heap.size w w':=by
 refine (joined_any p 0 1 [x] w hp ?_ (by simp) (by simp [sumL];omega)).mono ?_
 · intro k hk
   match k,hk with
   | 0,_ => simpa using hc
   | k + 1,hk => simp at hk
 · rintro e w' ⟨rfl,hb⟩
   exact ⟨by rw [catS_one],hb⟩
theorem told_any {w : World} {base B M : Nat} {v : Value} {b : Bk} (h : Dr w base B M v b) (ht : b.ts.length <= 5) (hi : b.is.length <= 8) (hs1 : ∀ t,t < b.ts.length -> (b.ts.getD t tmD).lk.size <= 16) (hs2 : ∀ t,t < b.is.length -> (b.is.getD t imD).nm.size <= 8 /\ (b.is.getD t imD).bd.size <= 20) :
 Calls Tryz.prog 83 #[.pointer (some ⟨B,0,none⟩)] w (NewBook b.c0 b.c1 b.c2 b.c3 b.ts b.is w):=by
 have HD:=qH h
 have HS1:=qH hs1
 have HS2:=qH hs2
 clear hs1 hs2
 obtain ⟨va,vc,rfl⟩:=own_shape h.row
 have hV0:=h.below ((Below.refl _ w).alloc (Nat.le_refl _) (.cells #[.int .i64 0,.int .i64 0,.int .i64 0,.int .i64 0,.slice none 0 0,.slice none 0 0] 28))
 have x0:=hV0.box.cell 0 _ rfl
 have x1:=hV0.box.cell 1 _ rfl
 have x2:=hV0.box.cell 2 _ rfl
 have x3:=hV0.box.cell 3 _ rfl
 clear h hV0
 go_enter Tryz.func83,Tryz.ntmps83
 go_upto_region 2 with fail
 clear x0 x1 x2 x3
 obtain ⟨V,hV⟩ : ∃ V,V = (w.alloc (.cells #[.int .i64 0,.int .i64 0,.int .i64 0,.int .i64 0,.slice none 0 0,.slice none 0 0] 28)).alloc (.cells #[.int .i64 b.c0,.int .i64 b.c1,.int .i64 b.c2,.int .i64 b.c3,.slice none 0 0,.slice none 0 0] 28):=⟨_,rfl⟩
 have HB0 : Hid (Below w.heap.size w V):=qH (by rw [hV];exact ((Below.refl _ _).alloc (Nat.le_refl _) _).alloc (by simp) _)
 have HR0 : Hid (BoxC V w.heap.size [.int .i64 0,.int .i64 0,.int .i64 0,.int .i64 0,.slice none 0 0,.slice none 0 0]):=qH (by rw [hV];exact (BoxC.made _ _ _).alloc _)
 have HO0 : Hid (BoxC V (w.heap.size + 1) [.int .i64 b.c0,.int .i64 b.c1,.int .i64 b.c2,.int .i64 b.c3,.slice none 0 0,.slice none 0 0]):=qH (by rw [hV];have:=BoxC.made (w.alloc (.cells #[.int .i64 0,.int .i64 0,.int .i64 0,.int .i64 0,.slice none 0 0,.slice none 0 0] 28)) #[.int .i64 b.c0,.int .i64 b.c1,.int .i64 b.c2,.int .i64 b.c3,.slice none 0 0,.slice none 0 0] 28;rwa [World.size_alloc] at this)
 have HSZ0 : Hid (w.heap.size + 2 <= V.heap.size):=qH (by rw [hV];simp)
 rw [<- hV]
 clear hV
 have x4:=(HD.out.below HB0.out).box.cell 4 _ rfl
 go_wp2_with fail
 go_loopw [19] (fun i wr => ∃ (k : Nat) (pv : Value),k <= b.ts.length /\ i = .int .i64 k /\ Hid (wr.ownsRow (w.heap.size + 2) 30 tmE.k pv k (tmE.flat (b.ts.take k))) /\ Hid (BoxC wr (w.heap.size + 1) [.int .i64 b.c0,.int .i64 b.c1,.int .i64 b.c2,.int .i64 b.c3,pv,.slice none 0 0]) /\ Hid (BoxC wr w.heap.size [.int .i64 0,.int .i64 0,.int .i64 0,.int .i64 0,.slice none 0 0,.slice none 0 0]) /\ Hid (Below w.heap.size w wr) /\ Hid (w.heap.size + 2 <= wr.heap.size)) (fun i _ => b.ts.length - (intOf i).toNat)
 case atStart => exact ⟨0,_,Nat.zero_le _,rfl,qH (World.ownsRow_nil _ _ _ _),HO0,HR0,HB0,HSZ0⟩
 case round =>
  obtain ⟨k,pv,hk,rfl,HPR,HPO,HPZ,HB,HSZ⟩:=hrel
  clear HB0 HR0 HO0 HSZ0 x4
  obtain ⟨pa,pc,rfl⟩:=own_shape HPR.out
  by_cases hlt : k < b.ts.length
  · obtain ⟨g,o,rfl,hg,t0,t1⟩:=TmR.at (TmR.own (HD.out.below HB.out).row) hlt
    have hin : 0 <= (k : Int) /\ (k : Int) < (b.ts.length : Int):=by omega
    have hsz:=HS1.out k hlt
    have HTK : Hid (b.ts.take (k + 1) = b.ts.take k ++ [⟨(b.ts.getD k tmD).no,(b.ts.getD k tmD).lk⟩]):=qH (by
     rw [show (⟨(b.ts.getD k tmD).no,(b.ts.getD k tmD).lk⟩ : Tm) = b.ts[k] by simp [List.getD,List.getElem?_eq_getElem hlt]]
     exact (List.take_append_getElem hlt).symm)
    generalize (b.ts.getD k tmD).no = no at *
    generalize (b.ts.getD k tmD).lk = lk at *
    go_upto_region 5 with fail
    obtain ⟨W,hW⟩ : ∃ W,W = wr.alloc (.cells #[.int .i64 no,.string lk] 30):=⟨_,rfl⟩
    have HX : Hid (BoxC W wr.heap.size [.int .i64 no,.string lk]):=qH (by rw [hW];exact BoxC.made _ _ _)
    have HWB : Hid (Below wr.heap.size wr W):=qH (by rw [hW];exact (Below.refl _ _).alloc (Nat.le_refl _) _)
    rw [<- hW]
    clear hW t0 t1
    have HWL:=qH (show wr.heap.size < W.heap.size from HX.out.lt)
    obtain ⟨i1,hi1,hz1,hs1,hy1⟩:=info_parts infoTerm
    have hmx : Tryz.prog.follows .mixedOrders = true:=by kernel_rfl
    refine TillZ.region (t:=12) hmx (fun u => BoxC u (w.heap.size + 1) [.int .i64 b.c0,.int .i64 b.c1,.int .i64 b.c2,.int .i64 b.c3,.slice pa k pc,.slice none 0 0] /\ BoxC u wr.heap.size [.int .i64 no,.string lk]) ?_
    have hS0:=And.intro (HPO.out.below HWB.out).drew HX.out.drew
    refine TillZ.take4 (i:=0) (v:=.pointer (some ⟨w.heap.size + 1,4,none⟩)) rfl rfl rfl (by kernel_rfl) hS0 (fun u hu => by go_simp) ?_
    simp only [pS,List.set,zT,zZ]
    refine TillZ.take4 (i:=1) (v:=.slice pa k pc) rfl rfl rfl (by kernel_rfl) hS0 (fun u hu => by have z:=hu.1.cell 4 _ rfl;go_simp) ?_
    simp only [pS,List.set,zT,zZ,zU]
    refine TillZ.take4 (i:=2) (v:=.pointer (some ⟨wr.heap.size,0,none⟩)) rfl rfl rfl (by kernel_rfl) hS0 (fun u hu => by go_simp) ?_
    simp only [pS,List.set,zT,zZ,zU]
    refine TillZ.take4 (i:=3) (v:=.int .i64 no) rfl rfl rfl (by kernel_rfl) hS0 (fun u hu => by have z:=hu.2.cell 0 _ rfl;go_simp) ?_
    simp only [pS,List.set,zT,zZ,zU]
    refine TillZ.take4 (i:=4) (v:=.pointer (some ⟨wr.heap.size,1,none⟩)) rfl rfl rfl (by kernel_rfl) hS0 (fun u hu => by go_simp) ?_
    simp only [pS,List.set,zT,zZ,zU]
    refine TillZ.take4 (i:=5) (v:=.string lk) rfl rfl rfl (by kernel_rfl) hS0 (fun u hu => by have z:=hu.2.cell 1 _ rfl;go_simp) ?_
    simp only [pS,List.set,zT,zZ,zU]
    refine TillZ.one (i:=6) (by kernel_rfl) ?_
    refine TillZ.opz (i:=6) (v:=.slice (some ⟨W.heap.size,0,none⟩) 1 1) (w':=W.drew.alloc (.cells #[.string lk] 9)) rfl rfl rfl (by go_simp) ⟨hS0.1.alloc _,hS0.2.alloc _⟩ ?_
    simp only [pS,List.set,zT,zZ,zU]
    refine TillZ.call (i:=7) (f:=35) (args:=#[.slice (some ⟨W.heap.size,0,none⟩) 1 1]) (by kernel_rfl) rfl rfl rfl (by go_simp) ?_
    refine Calls.mono (joined_one lk 9 W.drew (by omega)) ?_
    rintro e w7 ⟨rfl,hb⟩
    have hS7:=And.intro (hS0.1.below hb) (hS0.2.below hb)
    have hW7 : Below wr.heap.size wr w7:=HWB.out.drew.trans (hb.mono HWB.out.size)
    have HB7:=qH (HB.out.trans (hW7.mono HB.out.size))
    have HSZ7:=qH (Nat.le_trans HSZ.out hW7.size)
    have HPR7:=qH (own_below HPR.out hW7)
    have HPZ7:=qH (HPZ.out.below hW7)
    have HLT7 : Hid (∀ q,(Value.slice pa k pc).ownBlock = some q -> q < wr.heap.size):=qH (fun q hq => (HPR.out.lt q hq).2)
    refine ⟨_,rfl,hS7,?_⟩
    clear hb hS0 hW7
    simp only [pS,List.set,zT,zZ,zU]
    refine TillZ.one (i:=8) (by kernel_rfl) ?_
    refine TillZ.opz (i:=8) (v:=.agg #[.int .i64 no,.string lk]) (w':=w7) rfl rfl rfl (by go_simp) hS7 ?_
    simp only [pS,List.set,zT,zZ,zU]
    refine TillZ.one (i:=9) (by kernel_rfl) ?_
    refine TillZ.opz (i:=9) (v:=.slice (some ⟨w7.heap.size,0,none⟩) 1 1) (w':=w7.alloc (.cells #[.int .i64 no,.string lk] 30)) rfl rfl rfl (by go_simp) ⟨hS7.1.alloc _,hS7.2.alloc _⟩ ?_
    simp only [pS,List.set,zT,zZ,zU]
    have hS9:=And.intro (hS7.1.alloc (.cells #[.int .i64 no,.string lk] 30)) (hS7.2.alloc (.cells #[.int .i64 no,.string lk] 30))
    have hO:=World.ownsRow.alloc HPR7.out (.cells #[.int .i64 no,.string lk] 30)
    have hL : SR tmE tmD (w7.alloc (.cells #[.int .i64 no,.string lk] 30)) (some ⟨w7.heap.size,0,none⟩) 1 1 [⟨no,lk⟩]:=SR.own (by decide) (World.ownsRow_lit w7 #[.int .i64 no,.string lk] 1 (Nat.le_refl _) (by decide) rfl)
    have HB9:=qH (HB7.out.alloc HB7.out.size (.cells #[.int .i64 no,.string lk] 30))
    have HSZ9 : Hid (w.heap.size + 2 <= (w7.alloc (.cells #[.int .i64 no,.string lk] 30)).heap.size):=qH (Nat.le_trans HSZ7.out (by simp))
    have HPZ9:=qH (HPZ7.out.alloc (.cells #[.int .i64 no,.string lk] 30))
    refine TillZ.one (i:=10) (by kernel_rfl) ?_
    refine append_opz tmE tmD (i:=10) (.tmp 24) (.tmp 32) 25 rfl rfl rfl rfl 30 i1 _ 24 Tryz.underlying25 hi1 hz1 hs1 hy1 rfl (by decide) (by decide) (w.heap.size + 2) _ k (b.ts.take k) rfl hO _ 1 1 [⟨no,lk⟩] rfl hL HSZ9.out (by omega) (by omega) (fun v2 u2 O2 G2 => ?_)
    simp only [pS,List.set,zT,zZ,zU]
    have hlow : ∀ q,(Value.slice pa k pc).ownBlock = some q -> w.heap.size + 2 <= q:=fun q hq => (HPR7.out.lt q hq).1
    have hb2:=hS9.1.grown G2 (fun e => by have:=hlow _ e.symm;omega)
    have hx2:=hS9.2.grown G2 (fun e => Nat.lt_irrefl _ (HLT7.out _ e.symm))
    have hz2:=HPZ9.out.grown G2 (fun e => by have:=hlow _ e.symm;omega)
    have HB10 : Hid (Below w.heap.size w u2):=qH (HB9.out.grown G2 HB9.out.size (fun q hq => by have:=hlow _ hq;omega))
    have HSZ10:=qH (Nat.le_trans HSZ9.out G2.size)
    have hlow2 : ∀ q,v2.ownBlock = some q -> w.heap.size + 2 <= q:=fun q hq => (O2.lt q hq).1
    obtain ⟨a2,c2,rfl⟩:=own_shape O2
    refine ⟨⟨hb2,hx2⟩,?_⟩
    have x4:=hb2.cell 4 _ rfl
    have f4:=hb2.free 4
    refine TillZ.value (i:=11) (v:=.pointer (some ⟨w.heap.size + 1,4,none⟩)) (by kernel_rfl) rfl rfl rfl (by go_simp) ⟨hb2,hx2⟩ ?_
    simp only [pS,List.set,zT,zZ,zU]
    rw [<- HTK.out] at O2
    have HNR:=qH (own_other O2 (b:=w.heap.size + 1) (fun q hq => by have:=hlow2 q hq;omega) ⟨w.heap.size + 1,4,none⟩ (.slice a2 (k + 1) c2) rfl)
    have HNO:=qH (hb2.set (j:=4) (by simp) (.slice a2 (k + 1) c2))
    have HNZ:=qH (hz2.other ⟨w.heap.size + 1,4,none⟩ (.slice a2 (k + 1) c2) (by simp))
    have HNB:=qH (HB10.out.setCell (p:=⟨w.heap.size + 1,4,none⟩) (by dsimp only;omega) (.slice a2 (k + 1) c2))
    have HNS : Hid (w.heap.size + 2 <= (u2.setCell ⟨w.heap.size + 1,4,none⟩ (.slice a2 (k + 1) c2)).heap.size):=qH (by rw [World.size_setCell];exact HSZ10.out)
    clear hb2 hx2 hz2 O2 G2 hO hL hS9 hS7 hlow hlow2
    refine TillZ.hand_skip (w':=u2.setCell ⟨w.heap.size + 1,4,none⟩ (.slice a2 (k + 1) c2)) (by kernel_rfl) rfl rfl (by go_simp) ?_
    simp only [pN,zT,zZ,zU]
    refine TillZ.any_done (by kernel_rfl) ?_ _
    clear x4 f4
    generalize u2.setCell ⟨w.heap.size + 1,4,none⟩ (.slice a2 (k + 1) c2) = u3 at *
    go_wp2_with fail
    go_roundw
    case rel => exact ⟨k + 1,_,by omega,by go_num,HNR,HNO,HNZ,HNB,HNS⟩
    case measure => simp [intOf];omega
  · obtain ⟨wq,rfl⟩ : ∃ x : World,x = wr:=⟨_,rfl⟩
    have hkl : b.ts.length = k:=by omega
    have hge : ¬ (k : Int) < (b.ts.length : Int):=by omega
    rw [<- hkl] at HPR HPO
    rw [List.take_of_length_le (Nat.le_refl _)] at HPR
    clear hkl hlt hk HS1
    have x5:=(HD.out.below HB.out).box.cell 5 _ rfl
    go_wp2_with fail
    refine (keysOf_any (some M) _).mono ?_
    rintro e w1 ⟨rfl,rfl⟩
    go_wp2_with fail
    refine (sortedKeys_any _ (HD.out.below HB.out).map HD.out.rise (by omega)).mono ?_
    rintro e w1 ⟨kv,rfl,hkr,hb⟩
    obtain ⟨ka,kc,rfl⟩:=own_shape hkr
    have HKR:=qH hkr
    have HBK:=qH hb
    clear hkr hb x5
    go_wp2_with fail
    have hwr:=HB.out.size
    have HB1 : Hid (Below wq.heap.size wq w1):=HBK
    have HWL : Hid (wq.heap.size <= w1.heap.size):=qH HBK.out.size
    have HKLT : Hid (∀ q,(Value.slice ka b.is.length kc).ownBlock = some q -> wq.heap.size <= q /\ q < w1.heap.size):=qH (fun q hq => HKR.out.lt q hq)
    have HTLT : Hid (∀ q,(Value.slice pa b.ts.length pc).ownBlock = some q -> w.heap.size + 2 <= q /\ q < wq.heap.size):=qH (fun q hq => HPR.out.lt q hq)
    have HPR1:=qH (own_below HPR.out HBK.out)
    have HPO1:=qH (HPO.out.below HBK.out)
    have HPZ1:=qH (HPZ.out.below HBK.out)
    have HBB1:=qH (HB.out.trans (HBK.out.mono HB.out.size))
    clear hwr
    go_loopw [43] (fun i wr => ∃ (k : Nat) (qv : Value),k <= b.is.length /\ i = .int .i64 k /\ Hid (wr.ownsRow w1.heap.size 32 imE.k qv k (imE.flat (b.is.take k))) /\ Hid (BoxC wr (w.heap.size + 1) [.int .i64 b.c0,.int .i64 b.c1,.int .i64 b.c2,.int .i64 b.c3,.slice pa b.ts.length pc,qv]) /\ Hid (BoxC wr w.heap.size [.int .i64 0,.int .i64 0,.int .i64 0,.int .i64 0,.slice none 0 0,.slice none 0 0]) /\ Hid (Below w.heap.size w wr) /\ Hid (wr.ownsRow wq.heap.size 9 stE.k (.slice ka b.is.length kc) b.is.length (stE.flat (b.is.map Im.nm))) /\ Hid (wr.ownsRow (w.heap.size + 2) 30 tmE.k (.slice pa b.ts.length pc) b.ts.length (tmE.flat b.ts)) /\ Hid (w1.heap.size <= wr.heap.size)) (fun i _ => b.is.length - (intOf i).toNat)
    case atStart => exact ⟨0,_,Nat.zero_le _,rfl,qH (World.ownsRow_nil _ _ _ _),HPO1,HPZ1,HBB1,qH (own_mono HKR.out (Nat.le_refl _)),HPR1,qH (Nat.le_refl _)⟩
    case round =>
     clear HPR1 HPO1 HPZ1 HBB1
     obtain ⟨m,qv,hm,rfl,HQR,HQO,HQZ,HQB,HQK,HQT,HQS⟩:=hrel
     obtain ⟨qa,qc,rfl⟩:=own_shape HQR.out
     by_cases hlt : m < b.is.length
     · have hkc:=(SR.own (E:=stE) (d:=ByteArray.empty) (by decide) HQK.out).cells (by omega)
       obtain ⟨g,o,rfl,hg,hc⟩:=hkc
       have t0:=hc m hlt 0 _ rfl
       rw [show stE.k = 1 from rfl,Nat.mul_one,Nat.add_zero,show ((b.is.map Im.nm).getD m ByteArray.empty) = (b.is.getD m imD).nm by simp [List.getD,hlt]] at t0
       clear hc
       have hin : 0 <= (m : Int) /\ (m : Int) < (b.is.length : Int):=by omega
       have hsz:=HS2.out m hlt
       have HTK : Hid (b.is.take (m + 1) = b.is.take m ++ [b.is.getD m imD]):=qH (by
        rw [show b.is.getD m imD = b.is[m] by simp [List.getD,List.getElem?_eq_getElem hlt]]
        exact (List.take_append_getElem hlt).symm)
       have hmem : b.is.getD m imD ∈ b.is:=by rw [List.getD,List.getElem?_eq_getElem hlt];exact List.getElem_mem hlt
       have hlk:=look1_any HD.out.rise hmem (HD.out.below HQB.out).map (by unfold maxLen;omega)
       generalize b.is.getD m imD = im at *
       obtain ⟨nm,tm,bd⟩:=im
       dsimp only at t0 hsz hlk
       have x5:=(HD.out.below HQB.out).box.cell 5 _ rfl
       clear hmem
       go_upto_region 11 with fail
       obtain ⟨W,hW⟩ : ∃ W,W = wr.alloc (.cells #[.string nm,.int .i64 tm,.string bd] 32):=⟨_,rfl⟩
       have HX : Hid (BoxC W wr.heap.size [.string nm,.int .i64 tm,.string bd]):=qH (by rw [hW];exact BoxC.made _ _ _)
       have HWB : Hid (Below wr.heap.size wr W):=qH (by rw [hW];exact (Below.refl _ _).alloc (Nat.le_refl _) _)
       rw [<- hW]
       clear hW t0 x5 hlk
       obtain ⟨i2,hi2,hz2,hs2,hy2⟩:=info_parts infoItem
       have hmx : Tryz.prog.follows .mixedOrders = true:=by kernel_rfl
       have HUB : Hid (∀ u,Below W.heap.size W u -> Below wr.heap.size wr u):=qH (fun u hu => HWB.out.trans (hu.mono HWB.out.size))
       have HUO : Hid (∀ u,Below W.heap.size W u -> BoxC u (w.heap.size + 1) [.int .i64 b.c0,.int .i64 b.c1,.int .i64 b.c2,.int .i64 b.c3,.slice pa b.ts.length pc,.slice qa m qc]):=qH (fun u hu => HQO.out.below (HUB.out u hu))
       have HUX : Hid (∀ u,Below W.heap.size W u -> BoxC u wr.heap.size [.string nm,.int .i64 tm,.string bd]):=qH (fun u hu => HX.out.below hu)
       refine TillZ.region (t:=15) hmx (fun u => (Below W.heap.size W u ∨ True) /\ BoxC u (w.heap.size + 1) [.int .i64 b.c0,.int .i64 b.c1,.int .i64 b.c2,.int .i64 b.c3,.slice pa b.ts.length pc,.slice qa m qc] /\ BoxC u wr.heap.size [.string nm,.int .i64 tm,.string bd]) ?_
       have hW0 : Below W.heap.size W W.drew:=(Below.refl _ _).drew
       have hSo : ∀ u,Below W.heap.size W u -> (Below W.heap.size W u ∨ True) /\ BoxC u (w.heap.size + 1) [.int .i64 b.c0,.int .i64 b.c1,.int .i64 b.c2,.int .i64 b.c3,.slice pa b.ts.length pc,.slice qa m qc] /\ BoxC u wr.heap.size [.string nm,.int .i64 tm,.string bd]:=fun u hu => ⟨.inl hu,HUO.out u hu,HUX.out u hu⟩
       have HSO:=qH hSo
       clear hSo
       have hS0:=HSO.out _ hW0
       refine TillZ.take4 (i:=0) (v:=.pointer (some ⟨w.heap.size + 1,5,none⟩)) rfl rfl rfl (by kernel_rfl) hS0 (fun u hu => by go_simp) ?_
       simp only [pS,List.set,zT,zZ]
       refine TillZ.take4 (i:=1) (v:=.slice qa m qc) rfl rfl rfl (by kernel_rfl) hS0 (fun u hu => by have z:=hu.2.1.cell 5 _ rfl;go_simp) ?_
       simp only [pS,List.set,zT,zZ,zU]
       refine TillZ.take4 (i:=2) (v:=.string nm) rfl rfl rfl (by kernel_rfl) hS0 (fun u hu => by go_simp) ?_
       simp only [pS,List.set,zT,zZ,zU]
       refine TillZ.take4 (i:=5) (v:=.pointer (some ⟨wr.heap.size,1,none⟩)) rfl rfl rfl (by kernel_rfl) hS0 (fun u hu => by go_simp) ?_
       simp only [pS,List.set,zT,zZ,zU]
       refine TillZ.take4 (i:=6) (v:=.int .i64 tm) rfl rfl rfl (by kernel_rfl) hS0 (fun u hu => by have z:=hu.2.2.cell 1 _ rfl;go_simp) ?_
       simp only [pS,List.set,zT,zZ,zU]
       refine TillZ.take4 (i:=7) (v:=.pointer (some ⟨wr.heap.size,2,none⟩)) rfl rfl rfl (by kernel_rfl) hS0 (fun u hu => by go_simp) ?_
       simp only [pS,List.set,zT,zZ,zU]
       refine TillZ.take4 (i:=8) (v:=.string bd) rfl rfl rfl (by kernel_rfl) hS0 (fun u hu => by have z:=hu.2.2.cell 2 _ rfl;go_simp) ?_
       simp only [pS,List.set,zT,zZ,zU]
       generalize W.drew = u0 at hW0 hS0 ⊢
       clear hS0
       refine TillZ.two (i:=3) (j:=9) (by kernel_rfl) ?_ ?_
       · skip
         refine TillZ.opz (i:=3) (v:=.slice (some ⟨u0.heap.size,0,none⟩) 1 1) (w':=u0.alloc (.cells #[.string nm] 9)) rfl rfl rfl (by go_simp) (HSO.out _ (hW0.alloc hW0.size _)) ?_
         simp only [pS,List.set,zT,zZ,zU]
         obtain ⟨u1,hu1⟩ : ∃ X,X = u0.alloc (.cells #[.string nm] 9):=⟨_,rfl⟩
         have hw1 : Below W.heap.size W u1:=by rw [hu1];exact hW0.alloc hW0.size _
         have hc3 : u1.cell? ⟨u0.heap.size,0,none⟩ = some (.string nm):=by rw [hu1];simp
         have hl3 : u0.heap.size < u1.heap.size:=by rw [hu1];simp
         rw [<- hu1]
         clear hu1
         obtain ⟨p3,hp3⟩ : ∃ p,p = u0.heap.size:=⟨_,rfl⟩
         rw [<- hp3] at hc3 hl3 ⊢
         clear hp3
         refine TillZ.two (i:=4) (j:=9) (by kernel_rfl) ?_ ?_
         · skip
           refine TillZ.callz (i:=4) (f:=35) (args:=#[.slice (some ⟨p3,0,none⟩) 1 1]) rfl rfl rfl (by go_simp) ?_
           refine Calls.mono (joined_at nm p3 u1 hl3 hc3 (by omega)) ?_
           rintro e u2 ⟨rfl,hb⟩
           have hw2:=hw1.trans (hb.mono hw1.size)
           refine ⟨_,rfl,HSO.out _ hw2,?_⟩
           clear hb
           simp only [pS,List.set,zT,zZ,zU]
           refine TillZ.one (i:=9) (by kernel_rfl) ?_
           refine TillZ.opz (i:=9) (v:=.slice (some ⟨u2.heap.size,0,none⟩) 1 1) (w':=u2.alloc (.cells #[.string bd] 9)) rfl rfl rfl (by go_simp) (HSO.out _ (hw2.alloc hw2.size _)) ?_
           simp only [pS,List.set,zT,zZ,zU]
           obtain ⟨u3,hu3⟩ : ∃ X,X = u2.alloc (.cells #[.string bd] 9):=⟨_,rfl⟩
           have hw3 : Below W.heap.size W u3:=by rw [hu3];exact hw2.alloc hw2.size _
           have hc9 : u3.cell? ⟨u2.heap.size,0,none⟩ = some (.string bd):=by rw [hu3];simp
           have hl9 : u2.heap.size < u3.heap.size:=by rw [hu3];simp
           rw [<- hu3]
           clear hu3
           obtain ⟨p9,hp9⟩ : ∃ p,p = u2.heap.size:=⟨_,rfl⟩
           rw [<- hp9] at hc9 hl9 ⊢
           clear hp9
           refine TillZ.call (i:=10) (f:=35) (args:=#[.slice (some ⟨p9,0,none⟩) 1 1]) (by kernel_rfl) rfl rfl rfl (by go_simp) ?_
           refine Calls.mono (joined_at bd p9 u3 hl9 hc9 (by omega)) ?_
           rintro e u4 ⟨rfl,hb⟩
           have hw4:=hw3.trans (hb.mono hw3.size)
           refine ⟨_,rfl,HSO.out _ hw4,?_⟩
           clear hb
           simp only [pS,List.set,zT,zZ,zU]
           have HW7:=qH (HUB.out _ hw4)
           have HB7:=qH (HQB.out.trans (HW7.out.mono HQB.out.size))
           have hS7:=HSO.out _ hw4
           have HS7S:=qH (Nat.le_trans HQS.out HW7.out.size)
           have HQR7:=qH (own_below HQR.out HW7.out)
           have HQK7:=qH (own_below HQK.out HW7.out)
           have HQT7:=qH (own_below HQT.out HW7.out)
           have HQZ7:=qH (HQZ.out.below HW7.out)
           have HLT7 : Hid (∀ q,(Value.slice qa m qc).ownBlock = some q -> w1.heap.size <= q /\ q < wr.heap.size):=qH (fun q hq => HQR.out.lt q hq)
           refine TillZ.one (i:=11) (by kernel_rfl) ?_
           refine TillZ.opz (i:=11) (v:=.agg #[.string nm,.int .i64 tm,.string bd]) (w':=u4) rfl rfl rfl (by go_simp) hS7 ?_
           simp only [pS,List.set,zT,zZ,zU]
           refine TillZ.one (i:=12) (by kernel_rfl) ?_
           refine TillZ.opz (i:=12) (v:=.slice (some ⟨u4.heap.size,0,none⟩) 1 1) (w':=u4.alloc (.cells #[.string nm,.int .i64 tm,.string bd] 32)) rfl rfl rfl (by go_simp) ⟨.inr trivial,hS7.2.1.alloc _,hS7.2.2.alloc _⟩ ?_
           simp only [pS,List.set,zT,zZ,zU]
           obtain ⟨X,hX⟩ : ∃ X,X = u4.alloc (.cells #[.string nm,.int .i64 tm,.string bd] 32):=⟨_,rfl⟩
           have hXB : Below u4.heap.size u4 X:=by rw [hX];exact (Below.refl _ _).alloc (Nat.le_refl _) _
           have hL : SR imE imD X (some ⟨u4.heap.size,0,none⟩) 1 1 [⟨nm,tm,bd⟩]:=by rw [hX];exact SR.own (by decide) (World.ownsRow_lit u4 #[.string nm,.int .i64 tm,.string bd] 1 (Nat.le_refl _) (by decide) rfl)
           rw [<- hX]
           have hb9:=hS7.2.1.below hXB
           have hx9:=hS7.2.2.below hXB
           have hO:=own_below HQR7.out hXB
           have HB9:=qH (HB7.out.trans (hXB.mono HB7.out.size))
           have HS9:=qH (Nat.le_trans HS7S.out hXB.size)
           have HQZ9:=qH (HQZ7.out.below hXB)
           have HQK9:=qH (own_below HQK7.out hXB)
           have HQT9:=qH (own_below HQT7.out hXB)
           clear hX hXB
           refine TillZ.one (i:=13) (by kernel_rfl) ?_
           refine append_opz imE imD (i:=13) (.tmp 54) (.tmp 65) 26 rfl rfl rfl rfl 32 i2 _ 40 Tryz.underlying26 hi2 hz2 hs2 hy2 rfl (by decide) (by decide) w1.heap.size _ m (b.is.take m) rfl hO _ 1 1 [⟨nm,tm,bd⟩] rfl hL HS9.out (by omega) (by omega) (fun v2 u2 O2 G2 => ?_)
           simp only [pS,List.set,zT,zZ,zU]
           have hw1 : w.heap.size + 2 <= w1.heap.size:=Nat.le_trans HSZ.out HWL.out
           have hlow : ∀ q,(Value.slice qa m qc).ownBlock = some q -> w1.heap.size <= q:=fun q hq => (HLT7.out q hq).1
           have hb2:=hb9.grown G2 (fun e => by have:=hlow _ e.symm;omega)
           have hx2:=hx9.grown G2 (fun e => Nat.lt_irrefl _ (HLT7.out _ e.symm).2)
           have hzz2:=HQZ9.out.grown G2 (fun e => by have:=hlow _ e.symm;omega)
           have hK2:=own_grown HQK9.out G2 (fun q hq h2 => by have:=(HKLT.out q hq).2;have:=hlow q h2;omega)
           have hT2:=own_grown HQT9.out G2 (fun q hq h2 => by have:=(HTLT.out q hq).2;have:=hlow q h2;have:=HWL.out;omega)
           have HB10 : Hid (Below w.heap.size w u2):=qH (HB9.out.grown G2 HB9.out.size (fun q hq => by have:=hlow _ hq;omega))
           have HS10:=qH (Nat.le_trans HS9.out G2.size)
           have hlow2 : ∀ q,v2.ownBlock = some q -> w1.heap.size <= q:=fun q hq => (O2.lt q hq).1
           obtain ⟨a2,c2,rfl⟩:=own_shape O2
           refine ⟨⟨.inr trivial,hb2,hx2⟩,?_⟩
           have y5:=hb2.cell 5 _ rfl
           have f5:=hb2.free 5
           refine TillZ.value (i:=14) (v:=.pointer (some ⟨w.heap.size + 1,5,none⟩)) (by kernel_rfl) rfl rfl rfl (by go_simp) ⟨.inr trivial,hb2,hx2⟩ ?_
           simp only [pS,List.set,zT,zZ,zU]
           rw [<- HTK.out] at O2
           have HNR:=qH (own_other O2 (b:=w.heap.size + 1) (fun q hq => by have:=hlow2 q hq;omega) ⟨w.heap.size + 1,5,none⟩ (.slice a2 (m + 1) c2) rfl)
           have HNO:=qH (hb2.set (j:=5) (by simp) (.slice a2 (m + 1) c2))
           have HNZ:=qH (hzz2.other ⟨w.heap.size + 1,5,none⟩ (.slice a2 (m + 1) c2) (by simp))
           have HNB:=qH (HB10.out.setCell (p:=⟨w.heap.size + 1,5,none⟩) (by dsimp only;omega) (.slice a2 (m + 1) c2))
           have HNK:=qH (own_other hK2 (b:=w.heap.size + 1) (fun q hq => by have:=(HKLT.out q hq).1;have:=HSZ.out;omega) ⟨w.heap.size + 1,5,none⟩ (.slice a2 (m + 1) c2) rfl)
           have HNT:=qH (own_other hT2 (b:=w.heap.size + 1) (fun q hq => by have:=(HTLT.out q hq).1;omega) ⟨w.heap.size + 1,5,none⟩ (.slice a2 (m + 1) c2) rfl)
           have HNS : Hid (w1.heap.size <= (u2.setCell ⟨w.heap.size + 1,5,none⟩ (.slice a2 (m + 1) c2)).heap.size):=qH (by rw [World.size_setCell];exact HS10.out)
           clear hb2 hx2 hzz2 O2 G2 hO hL hK2 hT2 hb9 hx9 hS7 hlow hlow2
           refine TillZ.hand_skip (w':=u2.setCell ⟨w.heap.size + 1,5,none⟩ (.slice a2 (m + 1) c2)) (by kernel_rfl) rfl rfl (by go_simp) ?_
           simp only [pN,zT,zZ,zU]
           refine TillZ.any_done (by kernel_rfl) ?_ _
           clear y5 f5
           generalize u2.setCell ⟨w.heap.size + 1,5,none⟩ (.slice a2 (m + 1) c2) = u3 at *
           go_wp2_with fail
           go_roundw
           case rel => exact ⟨m + 1,_,by omega,by go_num,HNR,HNO,HNZ,HNB,HNK,HNT,HNS⟩
           case measure => simp [intOf];omega
         · skip
           refine TillZ.opz (i:=9) (v:=.slice (some ⟨u1.heap.size,0,none⟩) 1 1) (w':=u1.alloc (.cells #[.string bd] 9)) rfl rfl rfl (by go_simp) (HSO.out _ (hw1.alloc hw1.size _)) ?_
           simp only [pS,List.set,zT,zZ,zU]
           obtain ⟨u5,hu5⟩ : ∃ X,X = u1.alloc (.cells #[.string bd] 9):=⟨_,rfl⟩
           have hw5 : Below W.heap.size W u5:=by rw [hu5];exact hw1.alloc hw1.size _
           have hc9 : u5.cell? ⟨u1.heap.size,0,none⟩ = some (.string bd):=by rw [hu5];simp
           have hl9 : u1.heap.size < u5.heap.size:=by rw [hu5];simp
           have hba : Below u1.heap.size u1 u5:=by rw [hu5];exact (Below.refl _ _).alloc (Nat.le_refl _) _
           have hc3:=(hba.cell (p:=⟨p3,0,none⟩) hl3).trans hc3
           have hl3:=Nat.lt_of_lt_of_le hl3 hba.size
           clear hba
           rw [<- hu5]
           clear hu5
           obtain ⟨p9,hp9⟩ : ∃ p,p = u1.heap.size:=⟨_,rfl⟩
           rw [<- hp9] at hc9 hl9 ⊢
           clear hp9
           refine TillZ.call (i:=4) (f:=35) (args:=#[.slice (some ⟨p3,0,none⟩) 1 1]) (by kernel_rfl) rfl rfl rfl (by go_simp) ?_
           refine Calls.mono (joined_at nm p3 u5 hl3 hc3 (by omega)) ?_
           rintro e u6 ⟨rfl,hb⟩
           have hw6:=hw5.trans (hb.mono hw5.size)
           have hc9:=(hb.cell (p:=⟨p9,0,none⟩) hl9).trans hc9
           have hl9:=Nat.lt_of_lt_of_le hl9 hb.size
           refine ⟨_,rfl,HSO.out _ hw6,?_⟩
           clear hb
           simp only [pS,List.set,zT,zZ,zU]
           refine TillZ.call (i:=10) (f:=35) (args:=#[.slice (some ⟨p9,0,none⟩) 1 1]) (by kernel_rfl) rfl rfl rfl (by go_simp) ?_
           refine Calls.mono (joined_at bd p9 u6 hl9 hc9 (by omega)) ?_
           rintro e u7 ⟨rfl,hb⟩
           have hw7:=hw6.trans (hb.mono hw6.size)
           refine ⟨_,rfl,HSO.out _ hw7,?_⟩
           clear hb
           simp only [pS,List.set,zT,zZ,zU]
           have HW7:=qH (HUB.out _ hw7)
           have HB7:=qH (HQB.out.trans (HW7.out.mono HQB.out.size))
           have hS7:=HSO.out _ hw7
           have HS7S:=qH (Nat.le_trans HQS.out HW7.out.size)
           have HQR7:=qH (own_below HQR.out HW7.out)
           have HQK7:=qH (own_below HQK.out HW7.out)
           have HQT7:=qH (own_below HQT.out HW7.out)
           have HQZ7:=qH (HQZ.out.below HW7.out)
           have HLT7 : Hid (∀ q,(Value.slice qa m qc).ownBlock = some q -> w1.heap.size <= q /\ q < wr.heap.size):=qH (fun q hq => HQR.out.lt q hq)
           refine TillZ.one (i:=11) (by kernel_rfl) ?_
           refine TillZ.opz (i:=11) (v:=.agg #[.string nm,.int .i64 tm,.string bd]) (w':=u7) rfl rfl rfl (by go_simp) hS7 ?_
           simp only [pS,List.set,zT,zZ,zU]
           refine TillZ.one (i:=12) (by kernel_rfl) ?_
           refine TillZ.opz (i:=12) (v:=.slice (some ⟨u7.heap.size,0,none⟩) 1 1) (w':=u7.alloc (.cells #[.string nm,.int .i64 tm,.string bd] 32)) rfl rfl rfl (by go_simp) ⟨.inr trivial,hS7.2.1.alloc _,hS7.2.2.alloc _⟩ ?_
           simp only [pS,List.set,zT,zZ,zU]
           obtain ⟨X,hX⟩ : ∃ X,X = u7.alloc (.cells #[.string nm,.int .i64 tm,.string bd] 32):=⟨_,rfl⟩
           have hXB : Below u7.heap.size u7 X:=by rw [hX];exact (Below.refl _ _).alloc (Nat.le_refl _) _
           have hL : SR imE imD X (some ⟨u7.heap.size,0,none⟩) 1 1 [⟨nm,tm,bd⟩]:=by rw [hX];exact SR.own (by decide) (World.ownsRow_lit u7 #[.string nm,.int .i64 tm,.string bd] 1 (Nat.le_refl _) (by decide) rfl)
           rw [<- hX]
           have hb9:=hS7.2.1.below hXB
           have hx9:=hS7.2.2.below hXB
           have hO:=own_below HQR7.out hXB
           have HB9:=qH (HB7.out.trans (hXB.mono HB7.out.size))
           have HS9:=qH (Nat.le_trans HS7S.out hXB.size)
           have HQZ9:=qH (HQZ7.out.below hXB)
           have HQK9:=qH (own_below HQK7.out hXB)
           have HQT9:=qH (own_below HQT7.out hXB)
           clear hX hXB
           refine TillZ.one (i:=13) (by kernel_rfl) ?_
           refine append_opz imE imD (i:=13) (.tmp 54) (.tmp 65) 26 rfl rfl rfl rfl 32 i2 _ 40 Tryz.underlying26 hi2 hz2 hs2 hy2 rfl (by decide) (by decide) w1.heap.size _ m (b.is.take m) rfl hO _ 1 1 [⟨nm,tm,bd⟩] rfl hL HS9.out (by omega) (by omega) (fun v2 u2 O2 G2 => ?_)
           simp only [pS,List.set,zT,zZ,zU]
           have hw1 : w.heap.size + 2 <= w1.heap.size:=Nat.le_trans HSZ.out HWL.out
           have hlow : ∀ q,(Value.slice qa m qc).ownBlock = some q -> w1.heap.size <= q:=fun q hq => (HLT7.out q hq).1
           have hb2:=hb9.grown G2 (fun e => by have:=hlow _ e.symm;omega)
           have hx2:=hx9.grown G2 (fun e => Nat.lt_irrefl _ (HLT7.out _ e.symm).2)
           have hzz2:=HQZ9.out.grown G2 (fun e => by have:=hlow _ e.symm;omega)
           have hK2:=own_grown HQK9.out G2 (fun q hq h2 => by have:=(HKLT.out q hq).2;have:=hlow q h2;omega)
           have hT2:=own_grown HQT9.out G2 (fun q hq h2 => by have:=(HTLT.out q hq).2;have:=hlow q h2;have:=HWL.out;omega)
           have HB10 : Hid (Below w.heap.size w u2):=qH (HB9.out.grown G2 HB9.out.size (fun q hq => by have:=hlow _ hq;omega))
           have HS10:=qH (Nat.le_trans HS9.out G2.size)
           have hlow2 : ∀ q,v2.ownBlock = some q -> w1.heap.size <= q:=fun q hq => (O2.lt q hq).1
           obtain ⟨a2,c2,rfl⟩:=own_shape O2
           refine ⟨⟨.inr trivial,hb2,hx2⟩,?_⟩
           have y5:=hb2.cell 5 _ rfl
           have f5:=hb2.free 5
           refine TillZ.value (i:=14) (v:=.pointer (some ⟨w.heap.size + 1,5,none⟩)) (by kernel_rfl) rfl rfl rfl (by go_simp) ⟨.inr trivial,hb2,hx2⟩ ?_
           simp only [pS,List.set,zT,zZ,zU]
           rw [<- HTK.out] at O2
           have HNR:=qH (own_other O2 (b:=w.heap.size + 1) (fun q hq => by have:=hlow2 q hq;omega) ⟨w.heap.size + 1,5,none⟩ (.slice a2 (m + 1) c2) rfl)
           have HNO:=qH (hb2.set (j:=5) (by simp) (.slice a2 (m + 1) c2))
           have HNZ:=qH (hzz2.other ⟨w.heap.size + 1,5,none⟩ (.slice a2 (m + 1) c2) (by simp))
           have HNB:=qH (HB10.out.setCell (p:=⟨w.heap.size + 1,5,none⟩) (by dsimp only;omega) (.slice a2 (m + 1) c2))
           have HNK:=qH (own_other hK2 (b:=w.heap.size + 1) (fun q hq => by have:=(HKLT.out q hq).1;have:=HSZ.out;omega) ⟨w.heap.size + 1,5,none⟩ (.slice a2 (m + 1) c2) rfl)
           have HNT:=qH (own_other hT2 (b:=w.heap.size + 1) (fun q hq => by have:=(HTLT.out q hq).1;omega) ⟨w.heap.size + 1,5,none⟩ (.slice a2 (m + 1) c2) rfl)
           have HNS : Hid (w1.heap.size <= (u2.setCell ⟨w.heap.size + 1,5,none⟩ (.slice a2 (m + 1) c2)).heap.size):=qH (by rw [World.size_setCell];exact HS10.out)
           clear hb2 hx2 hzz2 O2 G2 hO hL hK2 hT2 hb9 hx9 hS7 hlow hlow2
           refine TillZ.hand_skip (w':=u2.setCell ⟨w.heap.size + 1,5,none⟩ (.slice a2 (m + 1) c2)) (by kernel_rfl) rfl rfl (by go_simp) ?_
           simp only [pN,zT,zZ,zU]
           refine TillZ.any_done (by kernel_rfl) ?_ _
           clear y5 f5
           generalize u2.setCell ⟨w.heap.size + 1,5,none⟩ (.slice a2 (m + 1) c2) = u3 at *
           go_wp2_with fail
           go_roundw
           case rel => exact ⟨m + 1,_,by omega,by go_num,HNR,HNO,HNZ,HNB,HNK,HNT,HNS⟩
           case measure => simp [intOf];omega
       · skip
         refine TillZ.opz (i:=9) (v:=.slice (some ⟨u0.heap.size,0,none⟩) 1 1) (w':=u0.alloc (.cells #[.string bd] 9)) rfl rfl rfl (by go_simp) (HSO.out _ (hW0.alloc hW0.size _)) ?_
         simp only [pS,List.set,zT,zZ,zU]
         obtain ⟨u8,hu8⟩ : ∃ X,X = u0.alloc (.cells #[.string bd] 9):=⟨_,rfl⟩
         have hw8 : Below W.heap.size W u8:=by rw [hu8];exact hW0.alloc hW0.size _
         have hc9 : u8.cell? ⟨u0.heap.size,0,none⟩ = some (.string bd):=by rw [hu8];simp
         have hl9 : u0.heap.size < u8.heap.size:=by rw [hu8];simp
         rw [<- hu8]
         clear hu8
         obtain ⟨p9,hp9⟩ : ∃ p,p = u0.heap.size:=⟨_,rfl⟩
         rw [<- hp9] at hc9 hl9 ⊢
         clear hp9
         refine TillZ.one (i:=3) (by kernel_rfl) ?_
         refine TillZ.opz (i:=3) (v:=.slice (some ⟨u8.heap.size,0,none⟩) 1 1) (w':=u8.alloc (.cells #[.string nm] 9)) rfl rfl rfl (by go_simp) (HSO.out _ (hw8.alloc hw8.size _)) ?_
         simp only [pS,List.set,zT,zZ,zU]
         obtain ⟨u9,hu9⟩ : ∃ X,X = u8.alloc (.cells #[.string nm] 9):=⟨_,rfl⟩
         have hw9 : Below W.heap.size W u9:=by rw [hu9];exact hw8.alloc hw8.size _
         have hc3 : u9.cell? ⟨u8.heap.size,0,none⟩ = some (.string nm):=by rw [hu9];simp
         have hl3 : u8.heap.size < u9.heap.size:=by rw [hu9];simp
         have hba : Below u8.heap.size u8 u9:=by rw [hu9];exact (Below.refl _ _).alloc (Nat.le_refl _) _
         have hc9:=(hba.cell (p:=⟨p9,0,none⟩) hl9).trans hc9
         have hl9:=Nat.lt_of_lt_of_le hl9 hba.size
         clear hba
         rw [<- hu9]
         clear hu9
         obtain ⟨p3,hp3⟩ : ∃ p,p = u8.heap.size:=⟨_,rfl⟩
         rw [<- hp3] at hc3 hl3 ⊢
         clear hp3
         refine TillZ.call (i:=4) (f:=35) (args:=#[.slice (some ⟨p3,0,none⟩) 1 1]) (by kernel_rfl) rfl rfl rfl (by go_simp) ?_
         refine Calls.mono (joined_at nm p3 u9 hl3 hc3 (by omega)) ?_
         rintro e u10 ⟨rfl,hb⟩
         have hw10:=hw9.trans (hb.mono hw9.size)
         have hc9:=(hb.cell (p:=⟨p9,0,none⟩) hl9).trans hc9
         have hl9:=Nat.lt_of_lt_of_le hl9 hb.size
         refine ⟨_,rfl,HSO.out _ hw10,?_⟩
         clear hb
         simp only [pS,List.set,zT,zZ,zU]
         refine TillZ.call (i:=10) (f:=35) (args:=#[.slice (some ⟨p9,0,none⟩) 1 1]) (by kernel_rfl) rfl rfl rfl (by go_simp) ?_
         refine Calls.mono (joined_at bd p9 u10 hl9 hc9 (by omega)) ?_
         rintro e u11 ⟨rfl,hb⟩
         have hw11:=hw10.trans (hb.mono hw10.size)
         refine ⟨_,rfl,HSO.out _ hw11,?_⟩
         clear hb
         simp only [pS,List.set,zT,zZ,zU]
         have HW7:=qH (HUB.out _ hw11)
         have HB7:=qH (HQB.out.trans (HW7.out.mono HQB.out.size))
         have hS7:=HSO.out _ hw11
         have HS7S:=qH (Nat.le_trans HQS.out HW7.out.size)
         have HQR7:=qH (own_below HQR.out HW7.out)
         have HQK7:=qH (own_below HQK.out HW7.out)
         have HQT7:=qH (own_below HQT.out HW7.out)
         have HQZ7:=qH (HQZ.out.below HW7.out)
         have HLT7 : Hid (∀ q,(Value.slice qa m qc).ownBlock = some q -> w1.heap.size <= q /\ q < wr.heap.size):=qH (fun q hq => HQR.out.lt q hq)
         refine TillZ.one (i:=11) (by kernel_rfl) ?_
         refine TillZ.opz (i:=11) (v:=.agg #[.string nm,.int .i64 tm,.string bd]) (w':=u11) rfl rfl rfl (by go_simp) hS7 ?_
         simp only [pS,List.set,zT,zZ,zU]
         refine TillZ.one (i:=12) (by kernel_rfl) ?_
         refine TillZ.opz (i:=12) (v:=.slice (some ⟨u11.heap.size,0,none⟩) 1 1) (w':=u11.alloc (.cells #[.string nm,.int .i64 tm,.string bd] 32)) rfl rfl rfl (by go_simp) ⟨.inr trivial,hS7.2.1.alloc _,hS7.2.2.alloc _⟩ ?_
         simp only [pS,List.set,zT,zZ,zU]
         obtain ⟨X,hX⟩ : ∃ X,X = u11.alloc (.cells #[.string nm,.int .i64 tm,.string bd] 32):=⟨_,rfl⟩
         have hXB : Below u11.heap.size u11 X:=by rw [hX];exact (Below.refl _ _).alloc (Nat.le_refl _) _
         have hL : SR imE imD X (some ⟨u11.heap.size,0,none⟩) 1 1 [⟨nm,tm,bd⟩]:=by rw [hX];exact SR.own (by decide) (World.ownsRow_lit u11 #[.string nm,.int .i64 tm,.string bd] 1 (Nat.le_refl _) (by decide) rfl)
         rw [<- hX]
         have hb9:=hS7.2.1.below hXB
         have hx9:=hS7.2.2.below hXB
         have hO:=own_below HQR7.out hXB
         have HB9:=qH (HB7.out.trans (hXB.mono HB7.out.size))
         have HS9:=qH (Nat.le_trans HS7S.out hXB.size)
         have HQZ9:=qH (HQZ7.out.below hXB)
         have HQK9:=qH (own_below HQK7.out hXB)
         have HQT9:=qH (own_below HQT7.out hXB)
         clear hX hXB
         refine TillZ.one (i:=13) (by kernel_rfl) ?_
         refine append_opz imE imD (i:=13) (.tmp 54) (.tmp 65) 26 rfl rfl rfl rfl 32 i2 _ 40 Tryz.underlying26 hi2 hz2 hs2 hy2 rfl (by decide) (by decide) w1.heap.size _ m (b.is.take m) rfl hO _ 1 1 [⟨nm,tm,bd⟩] rfl hL HS9.out (by omega) (by omega) (fun v2 u2 O2 G2 => ?_)
         simp only [pS,List.set,zT,zZ,zU]
         have hw1 : w.heap.size + 2 <= w1.heap.size:=Nat.le_trans HSZ.out HWL.out
         have hlow : ∀ q,(Value.slice qa m qc).ownBlock = some q -> w1.heap.size <= q:=fun q hq => (HLT7.out q hq).1
         have hb2:=hb9.grown G2 (fun e => by have:=hlow _ e.symm;omega)
         have hx2:=hx9.grown G2 (fun e => Nat.lt_irrefl _ (HLT7.out _ e.symm).2)
         have hzz2:=HQZ9.out.grown G2 (fun e => by have:=hlow _ e.symm;omega)
         have hK2:=own_grown HQK9.out G2 (fun q hq h2 => by have:=(HKLT.out q hq).2;have:=hlow q h2;omega)
         have hT2:=own_grown HQT9.out G2 (fun q hq h2 => by have:=(HTLT.out q hq).2;have:=hlow q h2;have:=HWL.out;omega)
         have HB10 : Hid (Below w.heap.size w u2):=qH (HB9.out.grown G2 HB9.out.size (fun q hq => by have:=hlow _ hq;omega))
         have HS10:=qH (Nat.le_trans HS9.out G2.size)
         have hlow2 : ∀ q,v2.ownBlock = some q -> w1.heap.size <= q:=fun q hq => (O2.lt q hq).1
         obtain ⟨a2,c2,rfl⟩:=own_shape O2
         refine ⟨⟨.inr trivial,hb2,hx2⟩,?_⟩
         have y5:=hb2.cell 5 _ rfl
         have f5:=hb2.free 5
         refine TillZ.value (i:=14) (v:=.pointer (some ⟨w.heap.size + 1,5,none⟩)) (by kernel_rfl) rfl rfl rfl (by go_simp) ⟨.inr trivial,hb2,hx2⟩ ?_
         simp only [pS,List.set,zT,zZ,zU]
         rw [<- HTK.out] at O2
         have HNR:=qH (own_other O2 (b:=w.heap.size + 1) (fun q hq => by have:=hlow2 q hq;omega) ⟨w.heap.size + 1,5,none⟩ (.slice a2 (m + 1) c2) rfl)
         have HNO:=qH (hb2.set (j:=5) (by simp) (.slice a2 (m + 1) c2))
         have HNZ:=qH (hzz2.other ⟨w.heap.size + 1,5,none⟩ (.slice a2 (m + 1) c2) (by simp))
         have HNB:=qH (HB10.out.setCell (p:=⟨w.heap.size + 1,5,none⟩) (by dsimp only;omega) (.slice a2 (m + 1) c2))
         have HNK:=qH (own_other hK2 (b:=w.heap.size + 1) (fun q hq => by have:=(HKLT.out q hq).1;have:=HSZ.out;omega) ⟨w.heap.size + 1,5,none⟩ (.slice a2 (m + 1) c2) rfl)
         have HNT:=qH (own_other hT2 (b:=w.heap.size + 1) (fun q hq => by have:=(HTLT.out q hq).1;omega) ⟨w.heap.size + 1,5,none⟩ (.slice a2 (m + 1) c2) rfl)
         have HNS : Hid (w1.heap.size <= (u2.setCell ⟨w.heap.size + 1,5,none⟩ (.slice a2 (m + 1) c2)).heap.size):=qH (by rw [World.size_setCell];exact HS10.out)
         clear hb2 hx2 hzz2 O2 G2 hO hL hK2 hT2 hb9 hx9 hS7 hlow hlow2
         refine TillZ.hand_skip (w':=u2.setCell ⟨w.heap.size + 1,5,none⟩ (.slice a2 (m + 1) c2)) (by kernel_rfl) rfl rfl (by go_simp) ?_
         simp only [pN,zT,zZ,zU]
         refine TillZ.any_done (by kernel_rfl) ?_ _
         clear y5 f5
         generalize u2.setCell ⟨w.heap.size + 1,5,none⟩ (.slice a2 (m + 1) c2) = u3 at *
         go_wp2_with fail
         go_roundw
         case rel => exact ⟨m + 1,_,by omega,by go_num,HNR,HNO,HNZ,HNB,HNK,HNT,HNS⟩
         case measure => simp [intOf];omega
     · have hge2 : ¬ (m : Int) < (b.is.length : Int):=by omega
       have hml : m = b.is.length:=by omega
       rw [hml] at HQR HQO
       rw [List.take_of_length_le (Nat.le_refl _)] at HQR
       have o0:=HQO.out.cell 0 _ rfl
       have z0:=HQZ.out.cell 0 _ rfl
       have k0:=HQZ.out.free 0
       have o1:=HQO.out.cell 1 _ rfl
       have z1:=HQZ.out.cell 1 _ rfl
       have k1:=HQZ.out.free 1
       have o2:=HQO.out.cell 2 _ rfl
       have z2:=HQZ.out.cell 2 _ rfl
       have k2:=HQZ.out.free 2
       have o3:=HQO.out.cell 3 _ rfl
       have z3:=HQZ.out.cell 3 _ rfl
       have k3:=HQZ.out.free 3
       have o4:=HQO.out.cell 4 _ rfl
       have z4:=HQZ.out.cell 4 _ rfl
       have k4:=HQZ.out.free 4
       have o5:=HQO.out.cell 5 _ rfl
       have z5:=HQZ.out.cell 5 _ rfl
       have k5:=HQZ.out.free 5
       obtain ⟨Y,hY⟩ : ∃ Y,Y = (((((wr.setCell ⟨w.heap.size,0,none⟩ (.int .i64 b.c0)).setCell ⟨w.heap.size,1,none⟩ (.int .i64 b.c1)).setCell ⟨w.heap.size,2,none⟩ (.int .i64 b.c2)).setCell ⟨w.heap.size,3,none⟩ (.int .i64 b.c3)).setCell ⟨w.heap.size,4,none⟩ (.slice pa b.ts.length pc)).setCell ⟨w.heap.size,5,none⟩ (.slice qa b.is.length qc):=⟨_,rfl⟩
       have HYB : Hid (Below w.heap.size w Y):=qH (by rw [hY];exact ((((((HQB.out.setCell (p:=⟨w.heap.size,0,none⟩) (Nat.le_refl _) (.int .i64 b.c0)).setCell (p:=⟨w.heap.size,1,none⟩) (Nat.le_refl _) (.int .i64 b.c1)).setCell (p:=⟨w.heap.size,2,none⟩) (Nat.le_refl _) (.int .i64 b.c2)).setCell (p:=⟨w.heap.size,3,none⟩) (Nat.le_refl _) (.int .i64 b.c3)).setCell (p:=⟨w.heap.size,4,none⟩) (Nat.le_refl _) (.slice pa b.ts.length pc)).setCell (p:=⟨w.heap.size,5,none⟩) (Nat.le_refl _) (.slice qa b.is.length qc)))
       have HYT : Hid (Y.ownsRow w.heap.size 30 tmE.k (.slice pa b.ts.length pc) b.ts.length (tmE.flat b.ts)):=qH (by rw [hY];exact (own_other (own_other (own_other (own_other (own_other (own_other (own_mono HQT.out (show w.heap.size <= w.heap.size + 2 by omega)) (b:=w.heap.size) (fun q hq => by have:=(HTLT.out q hq).1;omega) ⟨w.heap.size,0,none⟩ (.int .i64 b.c0) rfl) (b:=w.heap.size) (fun q hq => by have:=(HTLT.out q hq).1;omega) ⟨w.heap.size,1,none⟩ (.int .i64 b.c1) rfl) (b:=w.heap.size) (fun q hq => by have:=(HTLT.out q hq).1;omega) ⟨w.heap.size,2,none⟩ (.int .i64 b.c2) rfl) (b:=w.heap.size) (fun q hq => by have:=(HTLT.out q hq).1;omega) ⟨w.heap.size,3,none⟩ (.int .i64 b.c3) rfl) (b:=w.heap.size) (fun q hq => by have:=(HTLT.out q hq).1;omega) ⟨w.heap.size,4,none⟩ (.slice pa b.ts.length pc) rfl) (b:=w.heap.size) (fun q hq => by have:=(HTLT.out q hq).1;omega) ⟨w.heap.size,5,none⟩ (.slice qa b.is.length qc) rfl))
       have HYI : Hid (Y.ownsRow w.heap.size 32 imE.k (.slice qa b.is.length qc) b.is.length (imE.flat b.is)):=qH (by rw [hY];exact (own_other (own_other (own_other (own_other (own_other (own_other (own_mono HQR.out (show w.heap.size <= w1.heap.size by have:=HSZ.out;have:=HWL.out;omega)) (b:=w.heap.size) (fun q hq => by have:=(HQR.out.lt q hq).1;have:=HSZ.out;have:=HWL.out;omega) ⟨w.heap.size,0,none⟩ (.int .i64 b.c0) rfl) (b:=w.heap.size) (fun q hq => by have:=(HQR.out.lt q hq).1;have:=HSZ.out;have:=HWL.out;omega) ⟨w.heap.size,1,none⟩ (.int .i64 b.c1) rfl) (b:=w.heap.size) (fun q hq => by have:=(HQR.out.lt q hq).1;have:=HSZ.out;have:=HWL.out;omega) ⟨w.heap.size,2,none⟩ (.int .i64 b.c2) rfl) (b:=w.heap.size) (fun q hq => by have:=(HQR.out.lt q hq).1;have:=HSZ.out;have:=HWL.out;omega) ⟨w.heap.size,3,none⟩ (.int .i64 b.c3) rfl) (b:=w.heap.size) (fun q hq => by have:=(HQR.out.lt q hq).1;have:=HSZ.out;have:=HWL.out;omega) ⟨w.heap.size,4,none⟩ (.slice pa b.ts.length pc) rfl) (b:=w.heap.size) (fun q hq => by have:=(HQR.out.lt q hq).1;have:=HSZ.out;have:=HWL.out;omega) ⟨w.heap.size,5,none⟩ (.slice qa b.is.length qc) rfl))
       have hYZ:=((((((HQZ.out.set (j:=0) (by simp) (.int .i64 b.c0)).set (j:=1) (by simp) (.int .i64 b.c1)).set (j:=2) (by simp) (.int .i64 b.c2)).set (j:=3) (by simp) (.int .i64 b.c3)).set (j:=4) (by simp) (.slice pa b.ts.length pc)).set (j:=5) (by simp) (.slice qa b.is.length qc))
       rw [<- hY] at hYZ
       have g0:=hYZ.cell 0 _ rfl
       have g1:=hYZ.cell 1 _ rfl
       have g2:=hYZ.cell 2 _ rfl
       have g3:=hYZ.cell 3 _ rfl
       have g4:=hYZ.cell 4 _ rfl
       have g5:=hYZ.cell 5 _ rfl
       have HG:=qH (And.intro g0 (And.intro g1 (And.intro g2 (And.intro g3 (And.intro g4 g5)))))
       have HY:=qH hY
       clear g0 g1 g2 g3 g4 g5 hYZ hY hm hlt
       have hge3 : ¬ (m : Int) < (b.is.length : Int):=hge2
       rw [hml] at hge3
       go_wp2_with fail
       rw [<- HY.out]
       obtain ⟨g0,g1,g2,g3,g4,g5⟩:=HG.out
       exact bodyPost_ret (v:=.agg #[.int .i64 b.c0,.int .i64 b.c1,.int .i64 b.c2,.int .i64 b.c3,.slice pa b.ts.length pc,.slice qa b.is.length qc]) (by simp [results,Tryz.results83,go_sem,g0,g1,g2,g3,g4,g5]) rfl ⟨pa,b.ts.length,pc,qa,b.is.length,qc,rfl,⟨HYT.out,HYI.out⟩,HYB.out⟩
end Go.Proofs.YtbgoldeopmlbnaaGreatDoor
namespace Go.Proofs.YtbgoldeopmlbnaaGreatDoor
open Go.RowKit Go.PlainAid G IRow
set_option linter.unusedVariables false
theorem bookZero_any (c0 c1 c2 c3 : Int) (a1 a2 : Option Addr) (n1 n2 a3 a4 : Nat) (w : World) :
 Calls Tryz.prog 57 #[.agg #[.int .i64 c0,.int .i64 c1,.int .i64 c2,.int .i64 c3,.slice a1 n1 a3,.slice a2 n2 a4]] w fun e w' => e = .returned (.bool (zeroB c0 c1 c2 c3 n1 n2)) /\ Below w.heap.size w w':=by
 have HB : Hid (Below w.heap.size w (w.alloc (.cells #[.int .i64 c0,.int .i64 c1,.int .i64 c2,.int .i64 c3,.slice a1 n1 a3,.slice a2 n2 a4] 28))):=qH ((Below.refl _ _).alloc (Nat.le_refl _) _)
 have HE:=eql_conf c0 c1 c2 c3
 have HZ : Hid (zeroB c0 c1 c2 c3 n1 n2 = (decide (c0 = 0 /\ c1 = 0 /\ c2 = 0 /\ c3 = 0) && decide (n1 = 0) && decide (n2 = 0))):=qH rfl
 generalize decide (c0 = 0 /\ c1 = 0 /\ c2 = 0 /\ c3 = 0) = z at HE HZ
 cases z
 · have HF : Hid (false = zeroB c0 c1 c2 c3 n1 n2):=qH (by rw [HZ.out];rfl)
   clear HZ
   go_enter Tryz.func57,Tryz.ntmps57
   go_wp2_with fail
   go_ret
   exact ⟨ret_bool HF.out,HB.out⟩
 · by_cases h1 : n1 = 0
   · subst h1
     by_cases h2 : n2 = 0
     · subst h2
       have HF : Hid (true = zeroB c0 c1 c2 c3 0 0):=qH (by rw [HZ.out];rfl)
       clear HZ
       go_enter Tryz.func57,Tryz.ntmps57
       go_wp2_with fail
       go_ret
       exact ⟨ret_bool HF.out,HB.out⟩
     · have HF : Hid (false = zeroB c0 c1 c2 c3 0 n2):=qH (by rw [HZ.out,decide_eq_false h2,Bool.and_false])
       have h3 : ((n2 : Int) == 0) = false:=by rw [beq_eq_false_iff_ne];omega
       clear HZ
       go_enter Tryz.func57,Tryz.ntmps57
       go_wp2_with fail
       go_ret
       exact ⟨ret_bool HF.out,HB.out⟩
   · have HF : Hid (false = zeroB c0 c1 c2 c3 n1 n2):=qH (by rw [HZ.out,decide_eq_false h1,Bool.and_false,Bool.false_and])
     clear HZ
     go_enter Tryz.func57,Tryz.ntmps57
     go_wp2_with fail
     go_ret
     exact ⟨ret_bool HF.out,HB.out⟩
theorem termsRight_any (a : Option Addr) (n cap : Nat) (ts : List Tm) (w : World) (h : TmR w a n cap ts) (hn : n <= 1048576) (hs : ∀ t,t < n -> (ts.getD t tmD).lk.size <= maxLen) :
 Calls Tryz.prog 59 #[.slice a n cap] w fun e w' => e = .returned (.bool (decide (1 <= n /\ n <= 5) && allTo' (tAt ts) n)) /\ Below w.heap.size w w':=by
 have HS:=qH hs
 have HR:=qH h
 clear hs h
 by_cases h1 : 1 <= n
 · by_cases h5 : n <= 5
   · have HD : Hid (decide (1 <= n /\ n <= 5) = true):=qH (decide_eq_true ⟨h1,h5⟩)
     go_enter Tryz.func59,Tryz.ntmps59
     go_wp2_with fail
     go_loopw [15] (fun i wr => ∃ k : Nat,k <= n /\ i = .int .i64 k /\ Hid (allTo' (tAt ts) k = true) /\ Hid (Below w.heap.size w wr)) (fun i _ => n - (intOf i).toNat)
     case atStart => exact ⟨0,Nat.zero_le _,rfl,qH rfl,qH (Below.refl _ _)⟩
     case round =>
      obtain ⟨k,hk,rfl,HT,HB⟩:=hrel
      by_cases hlt : k < n
      · obtain ⟨g,o,rfl,hg,t0,t1⟩:=TmR.at (SR.below HR.out HB.out) hlt
        have hin : 0 <= (k : Int) /\ (k : Int) < (n : Int):=by omega
        have hsz:=HS.out k hlt
        have HTA : Hid (tAt ts k = (termB (ts.getD k tmD).no (ts.getD k tmD).lk && decide ((ts.getD k tmD).no = (k : Int) + 1))):=qH rfl
        generalize (ts.getD k tmD).no = no at *
        generalize (ts.getD k tmD).lk = lk at *
        have hk1 : IntKind.i64.wrap ((k : Int) + 1) = (k : Int) + 1:=IntWalk.i64_in _ (by omega)
        have hk2 : IntKind.i64.wrap (k : Int) = (k : Int):=IntWalk.i64_in _ (by omega)
        obtain ⟨V,hV⟩ : ∃ V,V = wr.alloc (.cells #[.int .i64 no,.string lk] 30):=⟨_,rfl⟩
        have hbv : Below w.heap.size w V:=by rw [hV];exact HB.out.alloc HB.out.size _
        have hA : BoxC V wr.heap.size [.int .i64 no,.string lk]:=by rw [hV];exact BoxC.made _ _ _
        go_wp2_with fail
        rw [<- hV]
        clear hV
        refine (implTerm_any no lk _ hsz).mono ?_
        rintro e w5 ⟨rfl,hb⟩
        have HB5:=qH (hbv.trans (hb.mono hbv.size))
        have y0:=(hA.below hb).cell 0 _ rfl
        clear hb hbv hA t0 t1 HB
        cases hv : termB no lk
        · have HF : Hid (allTo' (tAt ts) n = false):=qH (allTo'_no hlt (by rw [HTA.out,hv];rfl))
          go_wp2_with fail
          go_ret
          exact ⟨ret_bool (by rw [HF.out,Bool.and_false]),HB5.out⟩
        · by_cases hno : no = (k : Int) + 1
          · have HT2 : Hid (allTo' (tAt ts) (k + 1) = true):=qH (allTo'_succ HT.out (by rw [HTA.out,hv,decide_eq_true hno];rfl))
            have hno2 : (no != (k : Int) + 1) = false:=by rw [hno];simp
            go_wp2_with fail
            go_roundw
            case rel => exact ⟨k + 1,by omega,by go_num,HT2,HB5⟩
            case measure => simp [intOf];omega
          · have HF : Hid (allTo' (tAt ts) n = false):=qH (allTo'_no hlt (by rw [HTA.out,hv,decide_eq_false hno];rfl))
            have hno2 : (no != (k : Int) + 1) = true:=by simpa using hno
            go_wp2_with fail
            go_ret
            exact ⟨ret_bool (by rw [HF.out,Bool.and_false]),HB5.out⟩
      · obtain rfl : n = k:=by omega
        go_wp2_with fail
        go_ret
        exact ⟨ret_bool (by rw [HD.out,HT.out];rfl),HB.out⟩
   · have HF : Hid (decide (1 <= n /\ n <= 5) = false):=qH (decide_eq_false (by omega))
     go_enter Tryz.func59,Tryz.ntmps59
     go_wp2_with fail
     go_ret
     exact ⟨ret_bool (by first | rfl | (rw [HF.out];rfl)),by first | exact Below.refl _ _ | exact (Below.refl _ _).alloc (Nat.le_refl _) _⟩
 · have HF : Hid (decide (1 <= n /\ n <= 5) = false):=qH (decide_eq_false (by omega))
   go_enter Tryz.func59,Tryz.ntmps59
   go_wp2_with fail
   go_ret
   exact ⟨ret_bool (by first | rfl | (rw [HF.out];rfl)),by first | exact Below.refl _ _ | exact (Below.refl _ _).alloc (Nat.le_refl _) _⟩
theorem itemsRight_any (a : Option Addr) (n cap m : Nat) (is : List Im) (w : World) (h : ImR w a n cap is) (hn : n <= 1048576) (hm : m <= 1048576) (hs : ∀ t,t < n -> (is.getD t imD).nm.size <= maxLen /\ (is.getD t imD).bd.size <= maxLen) :
 Calls Tryz.prog 60 #[.slice a n cap,.int .i64 m] w fun e w' => e = .returned (.bool (decide (n <= 8) && allTo' (iAt m is) n)) /\ Below w.heap.size w w':=by
 have HS:=qH hs
 have HR:=qH h
 clear hs h
 by_cases h8 : n <= 8
 · have HD : Hid (decide (n <= 8) = true):=qH (decide_eq_true h8)
   go_enter Tryz.func60,Tryz.ntmps60
   go_wp2_with fail
   go_loopw [12] (fun i wr => ∃ k : Nat,k <= n /\ i = .int .i64 k /\ Hid (allTo' (iAt m is) k = true) /\ Hid (Below w.heap.size w wr)) (fun i _ => n - (intOf i).toNat)
   case atStart => exact ⟨0,Nat.zero_le _,rfl,qH rfl,qH (Below.refl _ _)⟩
   case round =>
    obtain ⟨k,hk,rfl,HI,HB⟩:=hrel
    by_cases hlt : k < n
    · obtain ⟨g,o,rfl,hg,t0,t1,t2⟩:=ImR.at (SR.below HR.out HB.out) hlt
      have hin : 0 <= (k : Int) /\ (k : Int) < (n : Int):=by omega
      have hsz:=HS.out k hlt
      have HIA : Hid (iAt m is k = (itemB (is.getD k imD).nm (is.getD k imD).tm (is.getD k imD).bd && decide ((is.getD k imD).tm <= (m : Int)) && (decide (k = 0) || ltS (is.getD (k - 1) imD).nm (is.getD k imD).nm))):=qH rfl
      generalize (is.getD k imD).nm = nm at *
      generalize (is.getD k imD).tm = tm at *
      generalize (is.getD k imD).bd = bd at *
      have hk2 : IntKind.i64.wrap (m : Int) = (m : Int):=IntWalk.i64_in _ (by omega)
      obtain ⟨V,hV⟩ : ∃ V,V = wr.alloc (.cells #[.string nm,.int .i64 tm,.string bd] 32):=⟨_,rfl⟩
      have hbv : Below w.heap.size w V:=by rw [hV];exact HB.out.alloc HB.out.size _
      have hA : BoxC V wr.heap.size [.string nm,.int .i64 tm,.string bd]:=by rw [hV];exact BoxC.made _ _ _
      go_wp2_with fail
      rw [<- hV]
      clear hV
      refine (implItem_any nm tm bd _ hsz.1 hsz.2).mono ?_
      rintro e w5 ⟨rfl,hb⟩
      have HB5:=qH (hbv.trans (hb.mono hbv.size))
      have y0:=(hA.below hb).cell 0 _ rfl
      have y1:=(hA.below hb).cell 1 _ rfl
      clear hb hbv hA t0 t1 t2 HB
      cases hv : itemB nm tm bd
      · have HF : Hid (allTo' (iAt m is) n = false):=qH (allTo'_no hlt (by rw [HIA.out,hv];rfl))
        go_wp2_with fail
        go_ret
        exact ⟨ret_bool (by rw [HF.out,Bool.and_false]),HB5.out⟩
      · by_cases htm : tm <= (m : Int)
        · have htm2 : ¬ (m : Int) < tm:=by omega
          by_cases h0 : k = 0
          · have HI2 : Hid (allTo' (iAt m is) (k + 1) = true):=qH (allTo'_succ HI.out (by rw [HIA.out,hv,decide_eq_true htm,decide_eq_true h0];rfl))
            subst h0
            go_wp2_with fail
            go_region
            go_wp2_with fail
            go_roundw
            case rel => exact ⟨0 + 1,by omega,by go_num,HI2,qH HB5.out.drew⟩
            case measure => simp [intOf];omega
          · have hk0 : 0 < k:=by omega
            have hk1 : IntKind.i64.wrap ((k : Int) - 1) = ((k - 1 : Nat) : Int):=by rw [IntWalk.i64_in _ (by omega)];omega
            have hin2 : 0 <= ((k - 1 : Nat) : Int) /\ ((k - 1 : Nat) : Int) < (n : Int):=by omega
            obtain ⟨g',o',hge,_,p0,_⟩:=ImR.at (SR.below HR.out HB5.out) (show k - 1 < n by omega)
            simp only [Option.some.injEq,Addr.mk.injEq,and_true] at hge
            obtain ⟨rfl,rfl⟩:=hge
            have hle:=leq_str nm (is.getD (k - 1) imD).nm
            generalize (is.getD (k - 1) imD).nm = pm at *
            obtain ⟨km,hkm⟩ : ∃ km,km = k - 1:=⟨_,rfl⟩
            rw [<- hkm] at p0 hk1 hin2
            clear hkm
            cases hl : ltS pm nm
            · have HF : Hid (allTo' (iAt m is) n = false):=qH (allTo'_no hlt (by rw [HIA.out,hl,decide_eq_false h0,Bool.or_self,Bool.and_false]))
              rw [hl] at hle
              go_wp2_with fail
              go_region
              go_wp2_with fail
              go_ret
              exact ⟨ret_bool (by rw [HF.out,Bool.and_false]),HB5.out.drew⟩
            · have HI2 : Hid (allTo' (iAt m is) (k + 1) = true):=qH (allTo'_succ HI.out (by rw [HIA.out,hv,decide_eq_true htm,hl,Bool.or_true];rfl))
              rw [hl] at hle
              go_wp2_with fail
              go_region
              go_wp2_with fail
              go_roundw
              case rel => exact ⟨k + 1,by omega,by go_num,HI2,qH HB5.out.drew⟩
              case measure => simp [intOf];omega
        · have HF : Hid (allTo' (iAt m is) n = false):=qH (allTo'_no hlt (by rw [HIA.out,hv,decide_eq_false htm];rfl))
          have htm2 : (m : Int) < tm:=by omega
          go_wp2_with fail
          go_ret
          exact ⟨ret_bool (by rw [HF.out,Bool.and_false]),HB5.out⟩
    · obtain rfl : n = k:=by omega
      go_wp2_with fail
      go_ret
      exact ⟨ret_bool (by rw [HD.out,HI.out];rfl),HB.out⟩
 · have HF : Hid (decide (n <= 8) = false):=qH (decide_eq_false (by omega))
   go_enter Tryz.func60,Tryz.ntmps60
   go_wp2_with fail
   go_ret
   exact ⟨ret_bool (by first | rfl | (rw [HF.out];rfl)),by first | exact Below.refl _ _ | exact (Below.refl _ _).alloc (Nat.le_refl _) _⟩
theorem implBookRight_any (b : Bk) (a1 a2 : Option Addr) (n1 n2 a3 a4 : Nat) (w : World) (h : BkR w a1 n1 a3 a2 n2 a4 b.ts b.is) (hn1 : n1 <= 1048576) (hn2 : n2 <= 1048576) (hs1 : ∀ t,t < n1 -> (b.ts.getD t tmD).lk.size <= maxLen) (hs2 : ∀ t,t < n2 -> (b.is.getD t imD).nm.size <= maxLen /\ (b.is.getD t imD).bd.size <= maxLen) :
 Calls Tryz.prog 23 #[.agg #[.int .i64 b.c0,.int .i64 b.c1,.int .i64 b.c2,.int .i64 b.c3,.slice a1 n1 a3,.slice a2 n2 a4]] w fun e w' => e = .returned (.bool (bookB b)) /\ Below w.heap.size w w':=by
 obtain ⟨c0,c1,c2,c3,ts,is⟩:=b
 dsimp only at h hs1 hs2 ⊢
 have hl1 : ts.length = n1:=h.t.len
 have hl2 : is.length = n2:=h.i.len
 have HS1:=qH hs1
 have HS2:=qH hs2
 have HD : Hid (bookB ⟨c0,c1,c2,c3,ts,is⟩ = (zeroB c0 c1 c2 c3 n1 n2 || (confB c0 c1 c2 c3 && decide (1 <= n1 /\ n1 <= 5) && decide (n2 <= 8) && allTo' (tAt ts) n1 && allTo' (iAt n1 is) n2))):=qH (by unfold bookB;dsimp only;rw [hl1,hl2])
 generalize bookB ⟨c0,c1,c2,c3,ts,is⟩ = R at *
 obtain ⟨W,hW⟩ : ∃ W,W = w.alloc (.cells #[.int .i64 c0,.int .i64 c1,.int .i64 c2,.int .i64 c3,.slice a1 n1 a3,.slice a2 n2 a4] 28):=⟨_,rfl⟩
 have HB0 : Hid (Below w.heap.size w W):=qH (by rw [hW];exact (Below.refl _ _).alloc (Nat.le_refl _) _)
 have HA : Hid (BoxC W (w.heap.size) [.int .i64 c0,.int .i64 c1,.int .i64 c2,.int .i64 c3,.slice a1 n1 a3,.slice a2 n2 a4]):=qH (by rw [hW];exact BoxC.made _ _ _)
 clear hs1 hs2 hl1 hl2
 have HR:=qH h
 clear h
 cases hz : zeroB c0 c1 c2 c3 n1 n2
 · cases hc : confB c0 c1 c2 c3
   · have HF : Hid (false = R):=qH (by rw [HD.out,hz,hc];rfl)
     go_enter Tryz.func23,Tryz.ntmps23
     go_wp2_with fail
     rw [<- hW]
     clear hW HD
     refine (bookZero_any c0 c1 c2 c3 a1 a2 n1 n2 a3 a4 _).mono ?_
     rintro e w1 ⟨rfl,hb⟩
     rw [hz]
     have HB1:=qH (HB0.out.trans (hb.mono HB0.out.size))
     have HA1:=qH (HA.out.below hb)
     have x0:=HA1.out.cell 0 _ rfl
     have x1:=HA1.out.cell 1 _ rfl
     have x2:=HA1.out.cell 2 _ rfl
     have x3:=HA1.out.cell 3 _ rfl
     clear hb
     go_wp2_with fail
     refine (implConf_any c0 c1 c2 c3 _).mono ?_
     rintro e w2 ⟨rfl,hb⟩
     rw [hc]
     have HB2:=qH (HB1.out.trans (hb.mono HB1.out.size))
     have HA2:=qH (HA1.out.below hb)
     have x4:=HA2.out.cell 4 _ rfl
     clear hb x0 x1 x2 x3
     go_wp2_with fail
     go_ret
     exact ⟨ret_bool HF.out,HB2.out⟩
   · cases ht : (decide (1 <= n1 /\ n1 <= 5) && allTo' (tAt ts) n1)
     · have HF : Hid (false = R):=qH (by rw [HD.out,hz,hc,Bool.true_and,Bool.and_right_comm (decide (1 <= n1 /\ n1 <= 5)),ht];simp)
       go_enter Tryz.func23,Tryz.ntmps23
       go_wp2_with fail
       rw [<- hW]
       clear hW HD
       refine (bookZero_any c0 c1 c2 c3 a1 a2 n1 n2 a3 a4 _).mono ?_
       rintro e w1 ⟨rfl,hb⟩
       rw [hz]
       have HB1:=qH (HB0.out.trans (hb.mono HB0.out.size))
       have HA1:=qH (HA.out.below hb)
       have x0:=HA1.out.cell 0 _ rfl
       have x1:=HA1.out.cell 1 _ rfl
       have x2:=HA1.out.cell 2 _ rfl
       have x3:=HA1.out.cell 3 _ rfl
       clear hb
       go_wp2_with fail
       refine (implConf_any c0 c1 c2 c3 _).mono ?_
       rintro e w2 ⟨rfl,hb⟩
       rw [hc]
       have HB2:=qH (HB1.out.trans (hb.mono HB1.out.size))
       have HA2:=qH (HA1.out.below hb)
       have x4:=HA2.out.cell 4 _ rfl
       clear hb x0 x1 x2 x3
       go_wp2_with fail
       refine (termsRight_any a1 n1 a3 ts _ (HR.out.below HB2.out).t hn1 HS1.out).mono ?_
       rintro e w3 ⟨rfl,hb⟩
       rw [ht]
       have HB3:=qH (HB2.out.trans (hb.mono HB2.out.size))
       have HA3:=qH (HA2.out.below hb)
       clear hb x4
       have x4:=HA3.out.cell 4 _ rfl
       have x5:=HA3.out.cell 5 _ rfl
       go_wp2_with fail
       go_ret
       exact ⟨ret_bool HF.out,HB3.out⟩
     · have HF : Hid ((decide (n2 <= 8) && allTo' (iAt n1 is) n2) = R):=qH (by rw [HD.out,hz,hc,Bool.true_and,Bool.and_right_comm (decide (1 <= n1 /\ n1 <= 5)),ht];simp)
       go_enter Tryz.func23,Tryz.ntmps23
       go_wp2_with fail
       rw [<- hW]
       clear hW HD
       refine (bookZero_any c0 c1 c2 c3 a1 a2 n1 n2 a3 a4 _).mono ?_
       rintro e w1 ⟨rfl,hb⟩
       rw [hz]
       have HB1:=qH (HB0.out.trans (hb.mono HB0.out.size))
       have HA1:=qH (HA.out.below hb)
       have x0:=HA1.out.cell 0 _ rfl
       have x1:=HA1.out.cell 1 _ rfl
       have x2:=HA1.out.cell 2 _ rfl
       have x3:=HA1.out.cell 3 _ rfl
       clear hb
       go_wp2_with fail
       refine (implConf_any c0 c1 c2 c3 _).mono ?_
       rintro e w2 ⟨rfl,hb⟩
       rw [hc]
       have HB2:=qH (HB1.out.trans (hb.mono HB1.out.size))
       have HA2:=qH (HA1.out.below hb)
       have x4:=HA2.out.cell 4 _ rfl
       clear hb x0 x1 x2 x3
       go_wp2_with fail
       refine (termsRight_any a1 n1 a3 ts _ (HR.out.below HB2.out).t hn1 HS1.out).mono ?_
       rintro e w3 ⟨rfl,hb⟩
       rw [ht]
       have HB3:=qH (HB2.out.trans (hb.mono HB2.out.size))
       have HA3:=qH (HA2.out.below hb)
       clear hb x4
       have x4:=HA3.out.cell 4 _ rfl
       have x5:=HA3.out.cell 5 _ rfl
       go_wp2_with fail
       refine (itemsRight_any a2 n2 a4 n1 is _ (HR.out.below HB3.out).i hn2 hn1 HS2.out).mono ?_
       rintro e w4 ⟨rfl,hb⟩
       have HB4:=qH (HB3.out.trans (hb.mono HB3.out.size))
       clear hb
       go_wp2_with fail
       go_ret
       exact ⟨ret_bool HF.out,HB4.out⟩
 · have HF : Hid (true = R):=qH (by rw [HD.out,hz];rfl)
   go_enter Tryz.func23,Tryz.ntmps23
   go_wp2_with fail
   rw [<- hW]
   clear hW
   refine (bookZero_any c0 c1 c2 c3 a1 a2 n1 n2 a3 a4 _).mono ?_
   rintro e w1 ⟨rfl,hb⟩
   rw [hz]
   have HB1:=qH (HB0.out.trans (hb.mono HB0.out.size))
   clear hb
   go_wp2_with fail
   go_ret
   exact ⟨ret_bool HF.out,HB1.out⟩
end Go.Proofs.YtbgoldeopmlbnaaGreatDoor
