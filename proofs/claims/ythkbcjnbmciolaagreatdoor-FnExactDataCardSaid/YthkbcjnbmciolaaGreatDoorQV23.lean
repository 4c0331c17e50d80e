/- Used by the law. -/
import Derived.Test.YthkbcjnbmciolaaGreatDoorQV22
set_option maxRecDepth 100000
set_option maxHeartbeats 16000000
namespace Go.Proofs.YthkbcjnbmciolaaGreatDoor
open Go.RowKit Go.PlainAid G IRow
open Go.Maps Go.Sort Go.Shelf
set_option linter.unusedVariables false
theorem sortsK (m : Nat) : AnyZ.SortsIn Tryz.prog LTryz.sorted155_ren Fence.wide m :=
 ⟨fun blk off cap ss W hH hblk hsz => callsIn_wide.2 (AnyM.slices_Sort_string LTryz.sort167 blk off cap ss W hH hblk hsz),
  fun p cap W => callsIn_wide.2 (AnyM.slices_Sort_string_none LTryz.sort167 p cap W)⟩
theorem keysOf_any (mb : Option Nat) (W : World) : Calls Tryz.prog 156 #[.map mb] W fun e w' => e = .returned (.func (.func 168) #[] #[.pointer (some ⟨W.heap.size,0,none⟩)]) /\ w' = W.alloc (.cells #[.map mb] 207) :=
 (callsIn_wide (n:=5)).1 (AnyZ.keys_in LTryz.keys156 Fence.wide 5 trivial rfl mb W)
theorem flat_names : ∀ is : List Im,(is.map (fun y => y.nm.data.toList)).map Go.Proofs.encStr = stE.flat (is.map Im.nm)
 | [] => rfl
 | x :: r => by
  have ih:=flat_names r
  simp only [List.map_cons,ih]
  show _ = [Value.string x.nm] ++ stE.flat (r.map Im.nm)
  simp [encStr]
theorem sortedKeys_any {b nn : Nat} {is : List Im} (w : World) (hown : w.ownsMap Tryz.prog 9 imR b nn (mapI is)) (hr : RiseI is) (hl : is.length <= 1048576) :
 Calls Tryz.prog 155 #[.func (.func 168) #[] #[.pointer (some ⟨w.heap.size,0,none⟩)]] (w.alloc (.cells #[.map (some b)] 207)) fun e w' => ∃ v,e = .returned v /\ w'.ownsRow w.heap.size 9 stE.k v is.length (stE.flat (is.map Im.nm)) /\ Below w.heap.size w w':=by
 have hbl:=hown.lt
 have hsz : Maps.size (mapI is) = is.length:=size_mapI is
 have hmax : Maps.size (mapI is) <= maxLen:=by rw [hsz];unfold maxLen;omega
 have hbytes : Maps.size (mapI is) * 16 <= 140737488355328:=by rw [hsz];omega
 have hseq : SeqGives Fence.wide 2 Tryz.prog 168 #[.pointer (some ⟨w.heap.size,0,none⟩)] encStr (fun ss => ss.Perm (strKeys (mapI is))) (Maps.size (mapI is)) (w.alloc (.cells #[.map (some b)] 207)) :=
  AnyZ.keys_gives (ρ:=LTryz.keys156_ren) { LTryz.keys156 with } Fence.wide _ trivial rfl (by omega) w.heap.size b nn (mapI is) _ (by simp) (by simp) (by
   obtain ⟨es,clock,hb,Ft,hs,hD⟩:=hown
   exact ⟨es,clock,(Below.heap_alloc _ _ b hbl).trans hb,Ft,hs,hD⟩)
 refine Calls.mono ((callsIn_wide (n:=5)).1 (AnyZ.sorted_in LTryz.sorted155 Fence.wide 5 trivial trivial trivial trivial rfl (by omega) (sortsK _) (enters_of Tryz.func167 (by kernel_rfl) rfl) 168 #[.pointer (some ⟨w.heap.size,0,none⟩)] trivial (enters_of Tryz.func168 (by kernel_rfl) rfl) _ _ hmax hbytes _ hseq)) ?_
 rintro e w' ⟨v,ss,rfl,hS,hrow,hnil,hb⟩
 have hs:=sorted_mapI hr hS
 have hlen : ss.length = is.length:=by have:=hS.length_eq;rw [keys_mapI,List.length_map] at this;exact this
 refine ⟨v,rfl,?_,((Below.refl _ w).alloc (Nat.le_refl _) _).trans (hb.mono (by simp))⟩
 have h2 : (ss.mergeSort (fun x y => decide (x <= y))).map encStr = stE.flat (is.map Im.nm):=by
  rw [show ss.mergeSort (fun x y => decide (x <= y)) = _ from hs,flat_names]
 rw [h2,hlen] at hrow
 exact own_mono hrow (by simp)
end Go.Proofs.YthkbcjnbmciolaaGreatDoor
namespace Go.Proofs.YthkbcjnbmciolaaGreatDoor
open Go.RowKit Go.PlainAid G IRow MJoin
set_option linter.unusedVariables false
theorem look1_any {is : List Im} (hr : RiseI is) {x : Im} (hx : x ∈ is) {u : World} {M n : Nat} (hown : u.ownsMap Tryz.prog 9 imR M n (mapI is)) (hq : x.nm.size <= maxLen) :
 (Instr.lookup 207 (.map (some M)) (.string x.nm) false).run Tryz.prog u = .ok (.agg #[.string x.nm,.int .i64 x.tm,.string x.bd]) u:=by
 obtain ⟨v,ps,hrun,hv⟩:=hown.lookup keyS Tryz.underlying207 (zeroItem u) (zd:=imDat ⟨⟨#[]⟩,0,⟨#[]⟩⟩) (zp:=[]) rfl (imKey_of hq)
 rw [at_mapI hr hx] at hv
 rw [hrun,imR_inv hv]
theorem joined_at (x : ByteArray) (p : Nat) (w : World) (hp : p < w.heap.size) (hc : w.cell? ⟨p,0,none⟩ = some (.string x)) (hx : x.size <= 1000000000) :
 Calls Tryz.prog 61 #[.slice (some ⟨p,0,none⟩) 1 1] w fun e w' => e = .returned (.string x) /\ Below w.heap.size w w':=by
 refine (joined_any p 0 1 [x] w hp ?_ (by simp) (by simp [sumL];omega)).mono ?_
 · intro k hk
   match k,hk with
   | 0,_ => simpa using hc
   | k + 1,hk => simp at hk
 · rintro e w' ⟨rfl,hb⟩
   exact ⟨by rw [catS_one],hb⟩
theorem told_any {w : World} {base B M : Nat} {v : Value} {b : Bk} (h : Dr w base B M v b) (ht : b.ts.length <= 5) (hi : b.is.length <= 8) (hs1 : ∀ t,t < b.ts.length -> (b.ts.getD t tmD).lk.size <= 16) (hs2 : ∀ t,t < b.is.length -> (b.is.getD t imD).nm.size <= 8 /\ (b.is.getD t imD).bd.size <= 20) :
 Calls Tryz.prog 133 #[.pointer (some ⟨B,0,none⟩)] w (NewBook b.c0 b.c1 b.c2 b.c3 b.ts b.is w):=by
 have HD:=qH h
 have HS1:=qH hs1
 have HS2:=qH hs2
 clear hs1 hs2
 obtain ⟨va,vc,rfl⟩:=own_shape h.row
 have hV0:=h.below ((Below.refl _ w).alloc (Nat.le_refl _) (.cells #[.int .i64 0,.int .i64 0,.int .i64 0,.int .i64 0,.slice none 0 0,.slice none 0 0] 43))
 have x0:=hV0.box.cell 0 _ rfl
 have x1:=hV0.box.cell 1 _ rfl
 have x2:=hV0.box.cell 2 _ rfl
 have x3:=hV0.box.cell 3 _ rfl
 clear h hV0
 go_enter Tryz.func133,Tryz.ntmps133
 go_upto_region 2 with fail
 clear x0 x1 x2 x3
 obtain ⟨V,hV⟩ : ∃ V,V = (w.alloc (.cells #[.int .i64 0,.int .i64 0,.int .i64 0,.int .i64 0,.slice none 0 0,.slice none 0 0] 43)).alloc (.cells #[.int .i64 b.c0,.int .i64 b.c1,.int .i64 b.c2,.int .i64 b.c3,.slice none 0 0,.slice none 0 0] 43):=⟨_,rfl⟩
 have HB0 : Hid (Below w.heap.size w V):=qH (by rw [hV];exact ((Below.refl _ _).alloc (Nat.le_refl _) _).alloc (by simp) _)
 have HR0 : Hid (BoxC V w.heap.size [.int .i64 0,.int .i64 0,.int .i64 0,.int .i64 0,.slice none 0 0,.slice none 0 0]):=qH (by rw [hV];exact (BoxC.made _ _ _).alloc _)
 have HO0 : Hid (BoxC V (w.heap.size + 1) [.int .i64 b.c0,.int .i64 b.c1,.int .i64 b.c2,.int .i64 b.c3,.slice none 0 0,.slice none 0 0]):=qH (by rw [hV];have:=BoxC.made (w.alloc (.cells #[.int .i64 0,.int .i64 0,.int .i64 0,.int .i64 0,.slice none 0 0,.slice none 0 0] 43)) #[.int .i64 b.c0,.int .i64 b.c1,.int .i64 b.c2,.int .i64 b.c3,.slice none 0 0,.slice none 0 0] 43;rwa [World.size_alloc] at this)
 have HSZ0 : Hid (w.heap.size + 2 <= V.heap.size):=qH (by rw [hV];simp)
 rw [<- hV]
 clear hV
 have x4:=(HD.out.below HB0.out).box.cell 4 _ rfl
 go_wp2_with fail
 go_loopw [19] (fun i wr => ∃ (k : Nat) (pv : Value),k <= b.ts.length /\ i = .int .i64 k /\ Hid (wr.ownsRow (w.heap.size + 2) 97 tmE.k pv k (tmE.flat (b.ts.take k))) /\ Hid (BoxC wr (w.heap.size + 1) [.int .i64 b.c0,.int .i64 b.c1,.int .i64 b.c2,.int .i64 b.c3,pv,.slice none 0 0]) /\ Hid (BoxC wr w.heap.size [.int .i64 0,.int .i64 0,.int .i64 0,.int .i64 0,.slice none 0 0,.slice none 0 0]) /\ Hid (Below w.heap.size w wr) /\ Hid (w.heap.size + 2 <= wr.heap.size)) (fun i _ => b.ts.length - (intOf i).toNat)
 case atStart => exact ⟨0,_,Nat.zero_le _,rfl,qH (World.ownsRow_nil _ _ _ _),HO0,HR0,HB0,HSZ0⟩
 case round =>
  obtain ⟨k,pv,hk,rfl,HPR,HPO,HPZ,HB,HSZ⟩:=hrel
  clear HB0 HR0 HO0 HSZ0 x4
  obtain ⟨pa,pc,rfl⟩:=own_shape HPR.out
  by_cases hlt : k < b.ts.length
  · obtain ⟨g,o,rfl,hg,t0,t1⟩:=TmR.at (TmR.own (HD.out.below HB.out).row) hlt
    have hin : 0 <= (k : Int) /\ (k : Int) < (b.ts.length : Int):=by omega
    have hsz:=HS1.out k hlt
    have HTK : Hid (b.ts.take (k + 1) = b.ts.take k ++ [⟨(b.ts.getD k tmD).no,(b.ts.getD k tmD).lk⟩]):=qH (by
     rw [show (⟨(b.ts.getD k tmD).no,(b.ts.getD k tmD).lk⟩ : Tm) = b.ts[k] by simp [List.getD,List.getElem?_eq_getElem hlt]]
     exact (List.take_append_getElem hlt).symm)
    generalize (b.ts.getD k tmD).no = no at *
    generalize (b.ts.getD k tmD).lk = lk at *
    go_upto_region 5 with fail
    obtain ⟨W,hW⟩ : ∃ W,W = wr.alloc (.cells #[.int .i64 no,.string lk] 97):=⟨_,rfl⟩
    have HX : Hid (BoxC W wr.heap.size [.int .i64 no,.string lk]):=qH (by rw [hW];exact BoxC.made _ _ _)
    have HWB : Hid (Below wr.heap.size wr W):=qH (by rw [hW];exact (Below.refl _ _).alloc (Nat.le_refl _) _)
    rw [<- hW]
    clear hW t0 t1
    have HWL:=qH (show wr.heap.size < W.heap.size from HX.out.lt)
    obtain ⟨i1,hi1,hz1,hs1,hy1⟩:=info_parts infoTerm
    have hmx : Tryz.prog.follows .mixedOrders = true:=by kernel_rfl
    refine TillZ.region (t:=12) hmx (fun u => BoxC u (w.heap.size + 1) [.int .i64 b.c0,.int .i64 b.c1,.int .i64 b.c2,.int .i64 b.c3,.slice pa k pc,.slice none 0 0] /\ BoxC u wr.heap.size [.int .i64 no,.string lk]) ?_
    have hS0:=And.intro (HPO.out.below HWB.out).drew HX.out.drew
    refine TillZ.take4 (i:=0) (v:=.pointer (some ⟨w.heap.size + 1,4,none⟩)) rfl rfl rfl (by kernel_rfl) hS0 (fun u hu => by go_simp) ?_
    simp only [pS,List.set,zT,zZ]
    refine TillZ.take4 (i:=1) (v:=.slice pa k pc) rfl rfl rfl (by kernel_rfl) hS0 (fun u hu => by have z:=hu.1.cell 4 _ rfl;go_simp) ?_
    simp only [pS,List.set,zT,zZ,zU]
    refine TillZ.take4 (i:=2) (v:=.pointer (some ⟨wr.heap.size,0,none⟩)) rfl rfl rfl (by kernel_rfl) hS0 (fun u hu => by go_simp) ?_
    simp only [pS,List.set,zT,zZ,zU]
    refine TillZ.take4 (i:=3) (v:=.int .i64 no) rfl rfl rfl (by kernel_rfl) hS0 (fun u hu => by have z:=hu.2.cell 0 _ rfl;go_simp) ?_
    simp only [pS,List.set,zT,zZ,zU]
    refine TillZ.take4 (i:=4) (v:=.pointer (some ⟨wr.heap.size,1,none⟩)) rfl rfl rfl (by kernel_rfl) hS0 (fun u hu => by go_simp) ?_
    simp only [pS,List.set,zT,zZ,zU]
    refine TillZ.take4 (i:=5) (v:=.string lk) rfl rfl rfl (by kernel_rfl) hS0 (fun u hu => by have z:=hu.2.cell 1 _ rfl;go_simp) ?_
    simp only [pS,List.set,zT,zZ,zU]
    refine TillZ.one (i:=6) (by kernel_rfl) ?_
    refine TillZ.opz (i:=6) (v:=.slice (some ⟨W.heap.size,0,none⟩) 1 1) (w':=W.drew.alloc (.cells #[.string lk] 9)) rfl rfl rfl (by go_simp) ⟨hS0.1.alloc _,hS0.2.alloc _⟩ ?_
    simp only [pS,List.set,zT,zZ,zU]
    refine TillZ.call (i:=7) (f:=61) (args:=#[.slice (some ⟨W.heap.size,0,none⟩) 1 1]) (by kernel_rfl) rfl rfl rfl (by go_simp) ?_
    refine Calls.mono (joined_one lk 9 W.drew (by omega)) ?_
    rintro e w7 ⟨rfl,hb⟩
    have hS7:=And.intro (hS0.1.below hb) (hS0.2.below hb)
    have hW7 : Below wr.heap.size wr w7:=HWB.out.drew.trans (hb.mono HWB.out.size)
    have HB7:=qH (HB.out.trans (hW7.mono HB.out.size))
    have HSZ7:=qH (Nat.le_trans HSZ.out hW7.size)
    have HPR7:=qH (own_below HPR.out hW7)
    have HPZ7:=qH (HPZ.out.below hW7)
    have HLT7 : Hid (∀ q,(Value.slice pa k pc).ownBlock = some q -> q < wr.heap.size):=qH (fun q hq => (HPR.out.lt q hq).2)
    refine ⟨_,rfl,hS7,?_⟩
    clear hb hS0 hW7
    simp only [pS,List.set,zT,zZ,zU]
    refine TillZ.one (i:=8) (by kernel_rfl) ?_
    refine TillZ.opz (i:=8) (v:=.agg #[.int .i64 no,.string lk]) (w':=w7) rfl rfl rfl (by go_simp) hS7 ?_
    simp only [pS,List.set,zT,zZ,zU]
    refine TillZ.one (i:=9) (by kernel_rfl) ?_
    refine TillZ.opz (i:=9) (v:=.slice (some ⟨w7.heap.size,0,none⟩) 1 1) (w':=w7.alloc (.cells #[.int .i64 no,.string lk] 97)) rfl rfl rfl (by go_simp) ⟨hS7.1.alloc _,hS7.2.alloc _⟩ ?_
    simp only [pS,List.set,zT,zZ,zU]
    have hS9:=And.intro (hS7.1.alloc (.cells #[.int .i64 no,.string lk] 97)) (hS7.2.alloc (.cells #[.int .i64 no,.string lk] 97))
    have hO:=World.ownsRow.alloc HPR7.out (.cells #[.int .i64 no,.string lk] 97)
    have hL : SR tmE tmD (w7.alloc (.cells #[.int .i64 no,.string lk] 97)) (some ⟨w7.heap.size,0,none⟩) 1 1 [⟨no,lk⟩]:=SR.own (by decide) (World.ownsRow_lit w7 #[.int .i64 no,.string lk] 1 (Nat.le_refl _) (by decide) rfl)
    have HB9:=qH (HB7.out.alloc HB7.out.size (.cells #[.int .i64 no,.string lk] 97))
    have HSZ9 : Hid (w.heap.size + 2 <= (w7.alloc (.cells #[.int .i64 no,.string lk] 97)).heap.size):=qH (Nat.le_trans HSZ7.out (by simp))
    have HPZ9:=qH (HPZ7.out.alloc (.cells #[.int .i64 no,.string lk] 97))
    refine TillZ.one (i:=10) (by kernel_rfl) ?_
    refine append_opz tmE tmD (i:=10) (.tmp 24) (.tmp 32) 40 rfl rfl rfl rfl 97 i1 _ 24 Tryz.underlying40 hi1 hz1 hs1 hy1 rfl (by decide) (by decide) (w.heap.size + 2) _ k (b.ts.take k) rfl hO _ 1 1 [⟨no,lk⟩] rfl hL HSZ9.out (by omega) (by omega) (fun v2 u2 O2 G2 => ?_)
    simp only [pS,List.set,zT,zZ,zU]
    have hlow : ∀ q,(Value.slice pa k pc).ownBlock = some q -> w.heap.size + 2 <= q:=fun q hq => (HPR7.out.lt q hq).1
    have hb2:=hS9.1.grown G2 (fun e => by have:=hlow _ e.symm;omega)
    have hx2:=hS9.2.grown G2 (fun e => Nat.lt_irrefl _ (HLT7.out _ e.symm))
    have hz2:=HPZ9.out.grown G2 (fun e => by have:=hlow _ e.symm;omega)
    have HB10 : Hid (Below w.heap.size w u2):=qH (HB9.out.grown G2 HB9.out.size (fun q hq => by have:=hlow _ hq;omega))
    have HSZ10:=qH (Nat.le_trans HSZ9.out G2.size)
    have hlow2 : ∀ q,v2.ownBlock = some q -> w.heap.size + 2 <= q:=fun q hq => (O2.lt q hq).1
    obtain ⟨a2,c2,rfl⟩:=own_shape O2
    refine ⟨⟨hb2,hx2⟩,?_⟩
    have x4:=hb2.cell 4 _ rfl
    have f4:=hb2.free 4
    refine TillZ.value (i:=11) (v:=.pointer (some ⟨w.heap.size + 1,4,none⟩)) (by kernel_rfl) rfl rfl rfl (by go_simp) ⟨hb2,hx2⟩ ?_
    simp only [pS,List.set,zT,zZ,zU]
    rw [<- HTK.out] at O2
    have HNR:=qH (own_other O2 (b:=w.heap.size + 1) (fun q hq => by have:=hlow2 q hq;omega) ⟨w.heap.size + 1,4,none⟩ (.slice a2 (k + 1) c2) rfl)
    have HNO:=qH (hb2.set (j:=4) (by simp) (.slice a2 (k + 1) c2))
    have HNZ:=qH (hz2.other ⟨w.heap.size + 1,4,none⟩ (.slice a2 (k + 1) c2) (by simp))
    have HNB:=qH (HB10.out.setCell (p:=⟨w.heap.size + 1,4,none⟩) (by dsimp only;omega) (.slice a2 (k + 1) c2))
    have HNS : Hid (w.heap.size + 2 <= (u2.setCell ⟨w.heap.size + 1,4,none⟩ (.slice a2 (k + 1) c2)).heap.size):=qH (by rw [World.size_setCell];exact HSZ10.out)
    clear hb2 hx2 hz2 O2 G2 hO hL hS9 hS7 hlow hlow2
    refine TillZ.hand_skip (w':=u2.setCell ⟨w.heap.size + 1,4,none⟩ (.slice a2 (k + 1) c2)) (by kernel_rfl) rfl rfl (by go_simp) ?_
    simp only [pN,zT,zZ,zU]
    refine TillZ.any_done (by kernel_rfl) ?_ _
    clear x4 f4
    generalize u2.setCell ⟨w.heap.size + 1,4,none⟩ (.slice a2 (k + 1) c2) = u3 at *
    go_wp2_with fail
    go_roundw
    case rel => exact ⟨k + 1,_,by omega,by go_num,HNR,HNO,HNZ,HNB,HNS⟩
    case measure => simp [intOf];omega
  · obtain ⟨wq,rfl⟩ : ∃ x : World,x = wr:=⟨_,rfl⟩
    have hkl : b.ts.length = k:=by omega
    have hge : ¬ (k : Int) < (b.ts.length : Int):=by omega
    rw [<- hkl] at HPR HPO
    rw [List.take_of_length_le (Nat.le_refl _)] at HPR
    clear hkl hlt hk HS1
    have x5:=(HD.out.below HB.out).box.cell 5 _ rfl
    go_wp2_with fail
    refine (keysOf_any (some M) _).mono ?_
    rintro e w1 ⟨rfl,rfl⟩
    go_wp2_with fail
    refine (sortedKeys_any _ (HD.out.below HB.out).map HD.out.rise (by omega)).mono ?_
    rintro e w1 ⟨kv,rfl,hkr,hb⟩
    obtain ⟨ka,kc,rfl⟩:=own_shape hkr
    have HKR:=qH hkr
    have HBK:=qH hb
    clear hkr hb x5
    go_wp2_with fail
    have hwr:=HB.out.size
    have HB1 : Hid (Below wq.heap.size wq w1):=HBK
    have HWL : Hid (wq.heap.size <= w1.heap.size):=qH HBK.out.size
    have HKLT : Hid (∀ q,(Value.slice ka b.is.length kc).ownBlock = some q -> wq.heap.size <= q /\ q < w1.heap.size):=qH (fun q hq => HKR.out.lt q hq)
    have HTLT : Hid (∀ q,(Value.slice pa b.ts.length pc).ownBlock = some q -> w.heap.size + 2 <= q /\ q < wq.heap.size):=qH (fun q hq => HPR.out.lt q hq)
    have HPR1:=qH (own_below HPR.out HBK.out)
    have HPO1:=qH (HPO.out.below HBK.out)
    have HPZ1:=qH (HPZ.out.below HBK.out)
    have HBB1:=qH (HB.out.trans (HBK.out.mono HB.out.size))
    clear hwr
    go_loopw [43] (fun i wr => ∃ (k : Nat) (qv : Value),k <= b.is.length /\ i = .int .i64 k /\ Hid (wr.ownsRow w1.heap.size 62 imE.k qv k (imE.flat (b.is.take k))) /\ Hid (BoxC wr (w.heap.size + 1) [.int .i64 b.c0,.int .i64 b.c1,.int .i64 b.c2,.int .i64 b.c3,.slice pa b.ts.length pc,qv]) /\ Hid (BoxC wr w.heap.size [.int .i64 0,.int .i64 0,.int .i64 0,.int .i64 0,.slice none 0 0,.slice none 0 0]) /\ Hid (Below w.heap.size w wr) /\ Hid (wr.ownsRow wq.heap.size 9 stE.k (.slice ka b.is.length kc) b.is.length (stE.flat (b.is.map Im.nm))) /\ Hid (wr.ownsRow (w.heap.size + 2) 97 tmE.k (.slice pa b.ts.length pc) b.ts.length (tmE.flat b.ts)) /\ Hid (w1.heap.size <= wr.heap.size)) (fun i _ => b.is.length - (intOf i).toNat)
    case atStart => exact ⟨0,_,Nat.zero_le _,rfl,qH (World.ownsRow_nil _ _ _ _),HPO1,HPZ1,HBB1,qH (own_mono HKR.out (Nat.le_refl _)),HPR1,qH (Nat.le_refl _)⟩
    case round =>
     clear HPR1 HPO1 HPZ1 HBB1
     obtain ⟨m,qv,hm,rfl,HQR,HQO,HQZ,HQB,HQK,HQT,HQS⟩:=hrel
     obtain ⟨qa,qc,rfl⟩:=own_shape HQR.out
     by_cases hlt : m < b.is.length
     · have hkc:=(SR.own (E:=stE) (d:=ByteArray.empty) (by decide) HQK.out).cells (by omega)
       obtain ⟨g,o,rfl,hg,hc⟩:=hkc
       have t0:=hc m hlt 0 _ rfl
       rw [show stE.k = 1 from rfl,Nat.mul_one,Nat.add_zero,show ((b.is.map Im.nm).getD m ByteArray.empty) = (b.is.getD m imD).nm by simp [List.getD,hlt]] at t0
       clear hc
       have hin : 0 <= (m : Int) /\ (m : Int) < (b.is.length : Int):=by omega
       have hsz:=HS2.out m hlt
       have HTK : Hid (b.is.take (m + 1) = b.is.take m ++ [b.is.getD m imD]):=qH (by
        rw [show b.is.getD m imD = b.is[m] by simp [List.getD,List.getElem?_eq_getElem hlt]]
        exact (List.take_append_getElem hlt).symm)
       have hmem : b.is.getD m imD ∈ b.is:=by rw [List.getD,List.getElem?_eq_getElem hlt];exact List.getElem_mem hlt
       have hlk:=look1_any HD.out.rise hmem (HD.out.below HQB.out).map (by unfold maxLen;omega)
       generalize b.is.getD m imD = im at *
       obtain ⟨nm,tm,bd⟩:=im
       dsimp only at t0 hsz hlk
       have x5:=(HD.out.below HQB.out).box.cell 5 _ rfl
       clear hmem
       go_upto_region 11 with fail
       obtain ⟨W,hW⟩ : ∃ W,W = wr.alloc (.cells #[.string nm,.int .i64 tm,.string bd] 62):=⟨_,rfl⟩
       have HX : Hid (BoxC W wr.heap.size [.string nm,.int .i64 tm,.string bd]):=qH (by rw [hW];exact BoxC.made _ _ _)
       have HWB : Hid (Below wr.heap.size wr W):=qH (by rw [hW];exact (Below.refl _ _).alloc (Nat.le_refl _) _)
       rw [<- hW]
       clear hW t0 x5 hlk
       obtain ⟨i2,hi2,hz2,hs2,hy2⟩:=info_parts infoItem
       have hmx : Tryz.prog.follows .mixedOrders = true:=by kernel_rfl
       have HUB : Hid (∀ u,Below W.heap.size W u -> Below wr.heap.size wr u):=qH (fun u hu => HWB.out.trans (hu.mono HWB.out.size))
       have HUO : Hid (∀ u,Below W.heap.size W u -> BoxC u (w.heap.size + 1) [.int .i64 b.c0,.int .i64 b.c1,.int .i64 b.c2,.int .i64 b.c3,.slice pa b.ts.length pc,.slice qa m qc]):=qH (fun u hu => HQO.out.below (HUB.out u hu))
       have HUX : Hid (∀ u,Below W.heap.size W u -> BoxC u wr.heap.size [.string nm,.int .i64 tm,.string bd]):=qH (fun u hu => HX.out.below hu)
       refine TillZ.region (t:=15) hmx (fun u => (Below W.heap.size W u ∨ True) /\ BoxC u (w.heap.size + 1) [.int .i64 b.c0,.int .i64 b.c1,.int .i64 b.c2,.int .i64 b.c3,.slice pa b.ts.length pc,.slice qa m qc] /\ BoxC u wr.heap.size [.string nm,.int .i64 tm,.string bd]) ?_
       have hW0 : Below W.heap.size W W.drew:=(Below.refl _ _).drew
       have hSo : ∀ u,Below W.heap.size W u -> (Below W.heap.size W u ∨ True) /\ BoxC u (w.heap.size + 1) [.int .i64 b.c0,.int .i64 b.c1,.int .i64 b.c2,.int .i64 b.c3,.slice pa b.ts.length pc,.slice qa m qc] /\ BoxC u wr.heap.size [.string nm,.int .i64 tm,.string bd]:=fun u hu => ⟨.inl hu,HUO.out u hu,HUX.out u hu⟩
       have HSO:=qH hSo
       clear hSo
       have hS0:=HSO.out _ hW0
       refine TillZ.take4 (i:=0) (v:=.pointer (some ⟨w.heap.size + 1,5,none⟩)) rfl rfl rfl (by kernel_rfl) hS0 (fun u hu => by go_simp) ?_
       simp only [pS,List.set,zT,zZ]
       refine TillZ.take4 (i:=1) (v:=.slice qa m qc) rfl rfl rfl (by kernel_rfl) hS0 (fun u hu => by have z:=hu.2.1.cell 5 _ rfl;go_simp) ?_
       simp only [pS,List.set,zT,zZ,zU]
       refine TillZ.take4 (i:=2) (v:=.string nm) rfl rfl rfl (by kernel_rfl) hS0 (fun u hu => by go_simp) ?_
       simp only [pS,List.set,zT,zZ,zU]
       refine TillZ.take4 (i:=5) (v:=.pointer (some ⟨wr.heap.size,1,none⟩)) rfl rfl rfl (by kernel_rfl) hS0 (fun u hu => by go_simp) ?_
       simp only [pS,List.set,zT,zZ,zU]
       refine TillZ.take4 (i:=6) (v:=.int .i64 tm) rfl rfl rfl (by kernel_rfl) hS0 (fun u hu => by have z:=hu.2.2.cell 1 _ rfl;go_simp) ?_
       simp only [pS,List.set,zT,zZ,zU]
       refine TillZ.take4 (i:=7) (v:=.pointer (some ⟨wr.heap.size,2,none⟩)) rfl rfl rfl (by kernel_rfl) hS0 (fun u hu => by go_simp) ?_
       simp only [pS,List.set,zT,zZ,zU]
       refine TillZ.take4 (i:=8) (v:=.string bd) rfl rfl rfl (by kernel_rfl) hS0 (fun u hu => by have z:=hu.2.2.cell 2 _ rfl;go_simp) ?_
       simp only [pS,List.set,zT,zZ,zU]
       generalize W.drew = u0 at hW0 hS0 ⊢
       clear hS0
       refine TillZ.two (i:=3) (j:=9) (by kernel_rfl) ?_ ?_
       · skip
         refine TillZ.opz (i:=3) (v:=.slice (some ⟨u0.heap.size,0,none⟩) 1 1) (w':=u0.alloc (.cells #[.string nm] 9)) rfl rfl rfl (by go_simp) (HSO.out _ (hW0.alloc hW0.size _)) ?_
         simp only [pS,List.set,zT,zZ,zU]
         obtain ⟨u1,hu1⟩ : ∃ X,X = u0.alloc (.cells #[.string nm] 9):=⟨_,rfl⟩
         have hw1 : Below W.heap.size W u1:=by rw [hu1];exact hW0.alloc hW0.size _
         have hc3 : u1.cell? ⟨u0.heap.size,0,none⟩ = some (.string nm):=by rw [hu1];simp
         have hl3 : u0.heap.size < u1.heap.size:=by rw [hu1];simp
         rw [<- hu1]
         clear hu1
         obtain ⟨p3,hp3⟩ : ∃ p,p = u0.heap.size:=⟨_,rfl⟩
         rw [<- hp3] at hc3 hl3 ⊢
         clear hp3
         refine TillZ.two (i:=4) (j:=9) (by kernel_rfl) ?_ ?_
         · skip
           refine TillZ.callz (i:=4) (f:=61) (args:=#[.slice (some ⟨p3,0,none⟩) 1 1]) rfl rfl rfl (by go_simp) ?_
           refine Calls.mono (joined_at nm p3 u1 hl3 hc3 (by omega)) ?_
           rintro e u2 ⟨rfl,hb⟩
           have hw2:=hw1.trans (hb.mono hw1.size)
           refine ⟨_,rfl,HSO.out _ hw2,?_⟩
           clear hb
           simp only [pS,List.set,zT,zZ,zU]
           refine TillZ.one (i:=9) (by kernel_rfl) ?_
           refine TillZ.opz (i:=9) (v:=.slice (some ⟨u2.heap.size,0,none⟩) 1 1) (w':=u2.alloc (.cells #[.string bd] 9)) rfl rfl rfl (by go_simp) (HSO.out _ (hw2.alloc hw2.size _)) ?_
           simp only [pS,List.set,zT,zZ,zU]
           obtain ⟨u3,hu3⟩ : ∃ X,X = u2.alloc (.cells #[.string bd] 9):=⟨_,rfl⟩
           have hw3 : Below W.heap.size W u3:=by rw [hu3];exact hw2.alloc hw2.size _
           have hc9 : u3.cell? ⟨u2.heap.size,0,none⟩ = some (.string bd):=by rw [hu3];simp
           have hl9 : u2.heap.size < u3.heap.size:=by rw [hu3];simp
           rw [<- hu3]
           clear hu3
           obtain ⟨p9,hp9⟩ : ∃ p,p = u2.heap.size:=⟨_,rfl⟩
           rw [<- hp9] at hc9 hl9 ⊢
           clear hp9
           refine TillZ.call (i:=10) (f:=61) (args:=#[.slice (some ⟨p9,0,none⟩) 1 1]) (by kernel_rfl) rfl rfl rfl (by go_simp) ?_
           refine Calls.mono (joined_at bd p9 u3 hl9 hc9 (by omega)) ?_
           rintro e u4 ⟨rfl,hb⟩
           have hw4:=hw3.trans (hb.mono hw3.size)
           refine ⟨_,rfl,HSO.out _ hw4,?_⟩
           clear hb
           simp only [pS,List.set,zT,zZ,zU]
           have HW7:=qH (HUB.out _ hw4)
           have HB7:=qH (HQB.out.trans (HW7.out.mono HQB.out.size))
           have hS7:=HSO.out _ hw4
           have HS7S:=qH (Nat.le_trans HQS.out HW7.out.size)
           have HQR7:=qH (own_below HQR.out HW7.out)
           have HQK7:=qH (own_below HQK.out HW7.out)
           have HQT7:=qH (own_below HQT.out HW7.out)
           have HQZ7:=qH (HQZ.out.below HW7.out)
           have HLT7 : Hid (∀ q,(Value.slice qa m qc).ownBlock = some q -> w1.heap.size <= q /\ q < wr.heap.size):=qH (fun q hq => HQR.out.lt q hq)
           refine TillZ.one (i:=11) (by kernel_rfl) ?_
           refine TillZ.opz (i:=11) (v:=.agg #[.string nm,.int .i64 tm,.string bd]) (w':=u4) rfl rfl rfl (by go_simp) hS7 ?_
           simp only [pS,List.set,zT,zZ,zU]
           refine TillZ.one (i:=12) (by kernel_rfl) ?_
           refine TillZ.opz (i:=12) (v:=.slice (some ⟨u4.heap.size,0,none⟩) 1 1) (w':=u4.alloc (.cells #[.string nm,.int .i64 tm,.string bd] 62)) rfl rfl rfl (by go_simp) ⟨.inr trivial,hS7.2.1.alloc _,hS7.2.2.alloc _⟩ ?_
           simp only [pS,List.set,zT,zZ,zU]
           obtain ⟨X,hX⟩ : ∃ X,X = u4.alloc (.cells #[.string nm,.int .i64 tm,.string bd] 62):=⟨_,rfl⟩
           have hXB : Below u4.heap.size u4 X:=by rw [hX];exact (Below.refl _ _).alloc (Nat.le_refl _) _
           have hL : SR imE imD X (some ⟨u4.heap.size,0,none⟩) 1 1 [⟨nm,tm,bd⟩]:=by rw [hX];exact SR.own (by decide) (World.ownsRow_lit u4 #[.string nm,.int .i64 tm,.string bd] 1 (Nat.le_refl _) (by decide) rfl)
           rw [<- hX]
           have hb9:=hS7.2.1.below hXB
           have hx9:=hS7.2.2.below hXB
           have hO:=own_below HQR7.out hXB
           have HB9:=qH (HB7.out.trans (hXB.mono HB7.out.size))
           have HS9:=qH (Nat.le_trans HS7S.out hXB.size)
           have HQZ9:=qH (HQZ7.out.below hXB)
           have HQK9:=qH (own_below HQK7.out hXB)
           have HQT9:=qH (own_below HQT7.out hXB)
           clear hX hXB
           refine TillZ.one (i:=13) (by kernel_rfl) ?_
           refine append_opz imE imD (i:=13) (.tmp 54) (.tmp 65) 41 rfl rfl rfl rfl 62 i2 _ 40 Tryz.underlying41 hi2 hz2 hs2 hy2 rfl (by decide) (by decide) w1.heap.size _ m (b.is.take m) rfl hO _ 1 1 [⟨nm,tm,bd⟩] rfl hL HS9.out (by omega) (by omega) (fun v2 u2 O2 G2 => ?_)
           simp only [pS,List.set,zT,zZ,zU]
           have hw1 : w.heap.size + 2 <= w1.heap.size:=Nat.le_trans HSZ.out HWL.out
           have hlow : ∀ q,(Value.slice qa m qc).ownBlock = some q -> w1.heap.size <= q:=fun q hq => (HLT7.out q hq).1
           have hb2:=hb9.grown G2 (fun e => by have:=hlow _ e.symm;omega)
           have hx2:=hx9.grown G2 (fun e => Nat.lt_irrefl _ (HLT7.out _ e.symm).2)
           have hzz2:=HQZ9.out.grown G2 (fun e => by have:=hlow _ e.symm;omega)
           have hK2:=own_grown HQK9.out G2 (fun q hq h2 => by have:=(HKLT.out q hq).2;have:=hlow q h2;omega)
           have hT2:=own_grown HQT9.out G2 (fun q hq h2 => by have:=(HTLT.out q hq).2;have:=hlow q h2;have:=HWL.out;omega)
           have HB10 : Hid (Below w.heap.size w u2):=qH (HB9.out.grown G2 HB9.out.size (fun q hq => by have:=hlow _ hq;omega))
           have HS10:=qH (Nat.le_trans HS9.out G2.size)
           have hlow2 : ∀ q,v2.ownBlock = some q -> w1.heap.size <= q:=fun q hq => (O2.lt q hq).1
           obtain ⟨a2,c2,rfl⟩:=own_shape O2
           refine ⟨⟨.inr trivial,hb2,hx2⟩,?_⟩
           have y5:=hb2.cell 5 _ rfl
           have f5:=hb2.free 5
           refine TillZ.value (i:=14) (v:=.pointer (some ⟨w.heap.size + 1,5,none⟩)) (by kernel_rfl) rfl rfl rfl (by go_simp) ⟨.inr trivial,hb2,hx2⟩ ?_
           simp only [pS,List.set,zT,zZ,zU]
           rw [<- HTK.out] at O2
           have HNR:=qH (own_other O2 (b:=w.heap.size + 1) (fun q hq => by have:=hlow2 q hq;omega) ⟨w.heap.size + 1,5,none⟩ (.slice a2 (m + 1) c2) rfl)
           have HNO:=qH (hb2.set (j:=5) (by simp) (.slice a2 (m + 1) c2))
           have HNZ:=qH (hzz2.other ⟨w.heap.size + 1,5,none⟩ (.slice a2 (m + 1) c2) (by simp))
           have HNB:=qH (HB10.out.setCell (p:=⟨w.heap.size + 1,5,none⟩) (by dsimp only;omega) (.slice a2 (m + 1) c2))
           have HNK:=qH (own_other hK2 (b:=w.heap.size + 1) (fun q hq => by have:=(HKLT.out q hq).1;have:=HSZ.out;omega) ⟨w.heap.size + 1,5,none⟩ (.slice a2 (m + 1) c2) rfl)
           have HNT:=qH (own_other hT2 (b:=w.heap.size + 1) (fun q hq => by have:=(HTLT.out q hq).1;omega) ⟨w.heap.size + 1,5,none⟩ (.slice a2 (m + 1) c2) rfl)
           have HNS : Hid (w1.heap.size <= (u2.setCell ⟨w.heap.size + 1,5,none⟩ (.slice a2 (m + 1) c2)).heap.size):=qH (by rw [World.size_setCell];exact HS10.out)
           clear hb2 hx2 hzz2 O2 G2 hO hL hK2 hT2 hb9 hx9 hS7 hlow hlow2
           refine TillZ.hand_skip (w':=u2.setCell ⟨w.heap.size + 1,5,none⟩ (.slice a2 (m + 1) c2)) (by kernel_rfl) rfl rfl (by go_simp) ?_
           simp only [pN,zT,zZ,zU]
           refine TillZ.any_done (by kernel_rfl) ?_ _
           clear y5 f5
           generalize u2.setCell ⟨w.heap.size + 1,5,none⟩ (.slice a2 (m + 1) c2) = u3 at *
           go_wp2_with fail
           go_roundw
           case rel => exact ⟨m + 1,_,by omega,by go_num,HNR,HNO,HNZ,HNB,HNK,HNT,HNS⟩
           case measure => simp [intOf];omega
         · skip
           refine TillZ.opz (i:=9) (v:=.slice (some ⟨u1.heap.size,0,none⟩) 1 1) (w':=u1.alloc (.cells #[.string bd] 9)) rfl rfl rfl (by go_simp) (HSO.out _ (hw1.alloc hw1.size _)) ?_
           simp only [pS,List.set,zT,zZ,zU]
           obtain ⟨u5,hu5⟩ : ∃ X,X = u1.alloc (.cells #[.string bd] 9):=⟨_,rfl⟩
           have hw5 : Below W.heap.size W u5:=by rw [hu5];exact hw1.alloc hw1.size _
           have hc9 : u5.cell? ⟨u1.heap.size,0,none⟩ = some (.string bd):=by rw [hu5];simp
           have hl9 : u1.heap.size < u5.heap.size:=by rw [hu5];simp
           have hba : Below u1.heap.size u1 u5:=by rw [hu5];exact (Below.refl _ _).alloc (Nat.le_refl _) _
           have hc3:=(hba.cell (p:=⟨p3,0,none⟩) hl3).trans hc3
           have hl3:=Nat.lt_of_lt_of_le hl3 hba.size
           clear hba
           rw [<- hu5]
           clear hu5
           obtain ⟨p9,hp9⟩ : ∃ p,p = u1.heap.size:=⟨_,rfl⟩
           rw [<- hp9] at hc9 hl9 ⊢
           clear hp9
           refine TillZ.call (i:=4) (f:=61) (args:=#[.slice (some ⟨p3,0,none⟩) 1 1]) (by kernel_rfl) rfl rfl rfl (by go_simp) ?_
           refine Calls.mono (joined_at nm p3 u5 hl3 hc3 (by omega)) ?_
           rintro e u6 ⟨rfl,hb⟩
           have hw6:=hw5.trans (hb.mono hw5.size)
           have hc9:=(hb.cell (p:=⟨p9,0,none⟩) hl9).trans hc9
           have hl9:=Nat.lt_of_lt_of_le hl9 hb.size
           refine ⟨_,rfl,HSO.out _ hw6,?_⟩
           clear hb
           simp only [pS,List.set,zT,zZ,zU]
           refine TillZ.call (i:=10) (f:=61) (args:=#[.slice (some ⟨p9,0,none⟩) 1 1]) (by kernel_rfl) rfl rfl rfl (by go_simp) ?_
           refine Calls.mono (joined_at bd p9 u6 hl9 hc9 (by omega)) ?_
           rintro e u7 ⟨rfl,hb⟩
           have hw7:=hw6.trans (hb.mono hw6.size)
           refine ⟨_,rfl,HSO.out _ hw7,?_⟩
           clear hb
           simp only [pS,List.set,zT,zZ,zU]
           have HW7:=qH (HUB.out _ hw7)
           have HB7:=qH (HQB.out.trans (HW7.out.mono HQB.out.size))
           have hS7:=HSO.out _ hw7
           have HS7S:=qH (Nat.le_trans HQS.out HW7.out.size)
           have HQR7:=qH (own_below HQR.out HW7.out)
           have HQK7:=qH (own_below HQK.out HW7.out)
           have HQT7:=qH (own_below HQT.out HW7.out)
           have HQZ7:=qH (HQZ.out.below HW7.out)
           have HLT7 : Hid (∀ q,(Value.slice qa m qc).ownBlock = some q -> w1.heap.size <= q /\ q < wr.heap.size):=qH (fun q hq => HQR.out.lt q hq)
           refine TillZ.one (i:=11) (by kernel_rfl) ?_
           refine TillZ.opz (i:=11) (v:=.agg #[.string nm,.int .i64 tm,.string bd]) (w':=u7) rfl rfl rfl (by go_simp) hS7 ?_
           simp only [pS,List.set,zT,zZ,zU]
           refine TillZ.one (i:=12) (by kernel_rfl) ?_
           refine TillZ.opz (i:=12) (v:=.slice (some ⟨u7.heap.size,0,none⟩) 1 1) (w':=u7.alloc (.cells #[.string nm,.int .i64 tm,.string bd] 62)) rfl rfl rfl (by go_simp) ⟨.inr trivial,hS7.2.1.alloc _,hS7.2.2.alloc _⟩ ?_
           simp only [pS,List.set,zT,zZ,zU]
           obtain ⟨X,hX⟩ : ∃ X,X = u7.alloc (.cells #[.string nm,.int .i64 tm,.string bd] 62):=⟨_,rfl⟩
           have hXB : Below u7.heap.size u7 X:=by rw [hX];exact (Below.refl _ _).alloc (Nat.le_refl _) _
           have hL : SR imE imD X (some ⟨u7.heap.size,0,none⟩) 1 1 [⟨nm,tm,bd⟩]:=by rw [hX];exact SR.own (by decide) (World.ownsRow_lit u7 #[.string nm,.int .i64 tm,.string bd] 1 (Nat.le_refl _) (by decide) rfl)
           rw [<- hX]
           have hb9:=hS7.2.1.below hXB
           have hx9:=hS7.2.2.below hXB
           have hO:=own_below HQR7.out hXB
           have HB9:=qH (HB7.out.trans (hXB.mono HB7.out.size))
           have HS9:=qH (Nat.le_trans HS7S.out hXB.size)
           have HQZ9:=qH (HQZ7.out.below hXB)
           have HQK9:=qH (own_below HQK7.out hXB)
           have HQT9:=qH (own_below HQT7.out hXB)
           clear hX hXB
           refine TillZ.one (i:=13) (by kernel_rfl) ?_
           refine append_opz imE imD (i:=13) (.tmp 54) (.tmp 65) 41 rfl rfl rfl rfl 62 i2 _ 40 Tryz.underlying41 hi2 hz2 hs2 hy2 rfl (by decide) (by decide) w1.heap.size _ m (b.is.take m) rfl hO _ 1 1 [⟨nm,tm,bd⟩] rfl hL HS9.out (by omega) (by omega) (fun v2 u2 O2 G2 => ?_)
           simp only [pS,List.set,zT,zZ,zU]
           have hw1 : w.heap.size + 2 <= w1.heap.size:=Nat.le_trans HSZ.out HWL.out
           have hlow : ∀ q,(Value.slice qa m qc).ownBlock = some q -> w1.heap.size <= q:=fun q hq => (HLT7.out q hq).1
           have hb2:=hb9.grown G2 (fun e => by have:=hlow _ e.symm;omega)
           have hx2:=hx9.grown G2 (fun e => Nat.lt_irrefl _ (HLT7.out _ e.symm).2)
           have hzz2:=HQZ9.out.grown G2 (fun e => by have:=hlow _ e.symm;omega)
           have hK2:=own_grown HQK9.out G2 (fun q hq h2 => by have:=(HKLT.out q hq).2;have:=hlow q h2;omega)
           have hT2:=own_grown HQT9.out G2 (fun q hq h2 => by have:=(HTLT.out q hq).2;have:=hlow q h2;have:=HWL.out;omega)
           have HB10 : Hid (Below w.heap.size w u2):=qH (HB9.out.grown G2 HB9.out.size (fun q hq => by have:=hlow _ hq;omega))
           have HS10:=qH (Nat.le_trans HS9.out G2.size)
           have hlow2 : ∀ q,v2.ownBlock = some q -> w1.heap.size <= q:=fun q hq => (O2.lt q hq).1
           obtain ⟨a2,c2,rfl⟩:=own_shape O2
           refine ⟨⟨.inr trivial,hb2,hx2⟩,?_⟩
           have y5:=hb2.cell 5 _ rfl
           have f5:=hb2.free 5
           refine TillZ.value (i:=14) (v:=.pointer (some ⟨w.heap.size + 1,5,none⟩)) (by kernel_rfl) rfl rfl rfl (by go_simp) ⟨.inr trivial,hb2,hx2⟩ ?_
           simp only [pS,List.set,zT,zZ,zU]
           rw [<- HTK.out] at O2
           have HNR:=qH (own_other O2 (b:=w.heap.size + 1) (fun q hq => by have:=hlow2 q hq;omega) ⟨w.heap.size + 1,5,none⟩ (.slice a2 (m + 1) c2) rfl)
           have HNO:=qH (hb2.set (j:=5) (by simp) (.slice a2 (m + 1) c2))
           have HNZ:=qH (hzz2.other ⟨w.heap.size + 1,5,none⟩ (.slice a2 (m + 1) c2) (by simp))
           have HNB:=qH (HB10.out.setCell (p:=⟨w.heap.size + 1,5,none⟩) (by dsimp only;omega) (.slice a2 (m + 1) c2))
           have HNK:=qH (own_other hK2 (b:=w.heap.size + 1) (fun q hq => by have:=(HKLT.out q hq).1;have:=HSZ.out;omega) ⟨w.heap.size + 1,5,none⟩ (.slice a2 (m + 1) c2) rfl)
           have HNT:=qH (own_other hT2 (b:=w.heap.size + 1) (fun q hq => by have:=(HTLT.out q hq).1;omega) ⟨w.heap.size + 1,5,none⟩ (.slice a2 (m + 1) c2) rfl)
           have HNS : Hid (w1.heap.size <= (u2.setCell ⟨w.heap.size + 1,5,none⟩ (.slice a2 (m + 1) c2)).heap.size):=qH (by rw [World.size_setCell];exact HS10.out)
           clear hb2 hx2 hzz2 O2 G2 hO hL hK2 hT2 hb9 hx9 hS7 hlow hlow2
           refine TillZ.hand_skip (w':=u2.setCell ⟨w.heap.size + 1,5,none⟩ (.slice a2 (m + 1) c2)) (by kernel_rfl) rfl rfl (by go_simp) ?_
           simp only [pN,zT,zZ,zU]
           refine TillZ.any_done (by kernel_rfl) ?_ _
           clear y5 f5
           generalize u2.setCell ⟨w.heap.size + 1,5,none⟩ (.slice a2 (m + 1) c2) = u3 at *
           go_wp2_with fail
           go_roundw
           case rel => exact ⟨m + 1,_,by omega,by go_num,HNR,HNO,HNZ,HNB,HNK,HNT,HNS⟩
           case measure => simp [intOf];omega
       · skip
         refine TillZ.opz (i:=9) (v:=.slice (some ⟨u0.heap.size,0,none⟩) 1 1) (w':=u0.alloc (.cells #[.string bd] 9)) rfl rfl rfl (by go_simp) (HSO.out _ (hW0.alloc hW0.size _)) ?_
         simp only [pS,List.set,zT,zZ,zU]
         obtain ⟨u8,hu8⟩ : ∃ X,X = u0.alloc (.cells #[.string bd] 9):=⟨_,rfl⟩
         have hw8 : Below W.heap.size W u8:=by rw [hu8];exact hW0.alloc hW0.size _
         have hc9 : u8.cell? ⟨u0.heap.size,0,none⟩ = some (.string bd):=by rw [hu8];simp
         have hl9 : u0.heap.size < u8.heap.size:=by rw [hu8];simp
         rw [<- hu8]
         clear hu8
         obtain ⟨p9,hp9⟩ : ∃ p,p = u0.heap.size:=⟨_,rfl⟩
         rw [<- hp9] at hc9 hl9 ⊢
         clear hp9
         refine TillZ.one (i:=3) (by kernel_rfl) ?_
         refine TillZ.opz (i:=3) (v:=.slice (some ⟨u8.heap.size,0,none⟩) 1 1) (w':=u8.alloc (.cells #[.string nm] 9)) rfl rfl rfl (by go_simp) (HSO.out _ (hw8.alloc hw8.size _)) ?_
         simp only [pS,List.set,zT,zZ,zU]
         obtain ⟨u9,hu9⟩ : ∃ X,X = u8.alloc (.cells #[.string nm] 9):=⟨_,rfl⟩
         have hw9 : Below W.heap.size W u9:=by rw [hu9];exact hw8.alloc hw8.size _
         have hc3 : u9.cell? ⟨u8.heap.size,0,none⟩ = some (.string nm):=by rw [hu9];simp
         have hl3 : u8.heap.size < u9.heap.size:=by rw [hu9];simp
         have hba : Below u8.heap.size u8 u9:=by rw [hu9];exact (Below.refl _ _).alloc (Nat.le_refl _) _
         have hc9:=(hba.cell (p:=⟨p9,0,none⟩) hl9).trans hc9
         have hl9:=Nat.lt_of_lt_of_le hl9 hba.size
         clear hba
         rw [<- hu9]
         clear hu9
         obtain ⟨p3,hp3⟩ : ∃ p,p = u8.heap.size:=⟨_,rfl⟩
         rw [<- hp3] at hc3 hl3 ⊢
         clear hp3
         refine TillZ.call (i:=4) (f:=61) (args:=#[.slice (some ⟨p3,0,none⟩) 1 1]) (by kernel_rfl) rfl rfl rfl (by go_simp) ?_
         refine Calls.mono (joined_at nm p3 u9 hl3 hc3 (by omega)) ?_
         rintro e u10 ⟨rfl,hb⟩
         have hw10:=hw9.trans (hb.mono hw9.size)
         have hc9:=(hb.cell (p:=⟨p9,0,none⟩) hl9).trans hc9
         have hl9:=Nat.lt_of_lt_of_le hl9 hb.size
         refine ⟨_,rfl,HSO.out _ hw10,?_⟩
         clear hb
         simp only [pS,List.set,zT,zZ,zU]
         refine TillZ.call (i:=10) (f:=61) (args:=#[.slice (some ⟨p9,0,none⟩) 1 1]) (by kernel_rfl) rfl rfl rfl (by go_simp) ?_
         refine Calls.mono (joined_at bd p9 u10 hl9 hc9 (by omega)) ?_
         rintro e u11 ⟨rfl,hb⟩
         have hw11:=hw10.trans (hb.mono hw10.size)
         refine ⟨_,rfl,HSO.out _ hw11,?_⟩
         clear hb
         simp only [pS,List.set,zT,zZ,zU]
         have HW7:=qH (HUB.out _ hw11)
         have HB7:=qH (HQB.out.trans (HW7.out.mono HQB.out.size))
         have hS7:=HSO.out _ hw11
         have HS7S:=qH (Nat.le_trans HQS.out HW7.out.size)
         have HQR7:=qH (own_below HQR.out HW7.out)
         have HQK7:=qH (own_below HQK.out HW7.out)
         have HQT7:=qH (own_below HQT.out HW7.out)
         have HQZ7:=qH (HQZ.out.below HW7.out)
         have HLT7 : Hid (∀ q,(Value.slice qa m qc).ownBlock = some q -> w1.heap.size <= q /\ q < wr.heap.size):=qH (fun q hq => HQR.out.lt q hq)
         refine TillZ.one (i:=11) (by kernel_rfl) ?_
         refine TillZ.opz (i:=11) (v:=.agg #[.string nm,.int .i64 tm,.string bd]) (w':=u11) rfl rfl rfl (by go_simp) hS7 ?_
         simp only [pS,List.set,zT,zZ,zU]
         refine TillZ.one (i:=12) (by kernel_rfl) ?_
         refine TillZ.opz (i:=12) (v:=.slice (some ⟨u11.heap.size,0,none⟩) 1 1) (w':=u11.alloc (.cells #[.string nm,.int .i64 tm,.string bd] 62)) rfl rfl rfl (by go_simp) ⟨.inr trivial,hS7.2.1.alloc _,hS7.2.2.alloc _⟩ ?_
         simp only [pS,List.set,zT,zZ,zU]
         obtain ⟨X,hX⟩ : ∃ X,X = u11.alloc (.cells #[.string nm,.int .i64 tm,.string bd] 62):=⟨_,rfl⟩
         have hXB : Below u11.heap.size u11 X:=by rw [hX];exact (Below.refl _ _).alloc (Nat.le_refl _) _
         have hL : SR imE imD X (some ⟨u11.heap.size,0,none⟩) 1 1 [⟨nm,tm,bd⟩]:=by rw [hX];exact SR.own (by decide) (World.ownsRow_lit u11 #[.string nm,.int .i64 tm,.string bd] 1 (Nat.le_refl _) (by decide) rfl)
         rw [<- hX]
         have hb9:=hS7.2.1.below hXB
         have hx9:=hS7.2.2.below hXB
         have hO:=own_below HQR7.out hXB
         have HB9:=qH (HB7.out.trans (hXB.mono HB7.out.size))
         have HS9:=qH (Nat.le_trans HS7S.out hXB.size)
         have HQZ9:=qH (HQZ7.out.below hXB)
         have HQK9:=qH (own_below HQK7.out hXB)
         have HQT9:=qH (own_below HQT7.out hXB)
         clear hX hXB
         refine TillZ.one (i:=13) (by kernel_rfl) ?_
         refine append_opz imE imD (i:=13) (.tmp 54) (.tmp 65) 41 rfl rfl rfl rfl 62 i2 _ 40 Tryz.underlying41 hi2 hz2 hs2 hy2 rfl (by decide) (by decide) w1.heap.size _ m (b.is.take m) rfl hO _ 1 1 [⟨nm,tm,bd⟩] rfl hL HS9.out (by omega) (by omega) (fun v2 u2 O2 G2 => ?_)
         simp only [pS,List.set,zT,zZ,zU]
         have hw1 : w.heap.size + 2 <= w1.heap.size:=Nat.le_trans HSZ.out HWL.out
         have hlow : ∀ q,(Value.slice qa m qc).ownBlock = some q -> w1.heap.size <= q:=fun q hq => (HLT7.out q hq).1
         have hb2:=hb9.grown G2 (fun e => by have:=hlow _ e.symm;omega)
         have hx2:=hx9.grown G2 (fun e => Nat.lt_irrefl _ (HLT7.out _ e.symm).2)
         have hzz2:=HQZ9.out.grown G2 (fun e => by have:=hlow _ e.symm;omega)
         have hK2:=own_grown HQK9.out G2 (fun q hq h2 => by have:=(HKLT.out q hq).2;have:=hlow q h2;omega)
         have hT2:=own_grown HQT9.out G2 (fun q hq h2 => by have:=(HTLT.out q hq).2;have:=hlow q h2;have:=HWL.out;omega)
         have HB10 : Hid (Below w.heap.size w u2):=qH (HB9.out.grown G2 HB9.out.size (fun q hq => by have:=hlow _ hq;omega))
         have HS10:=qH (Nat.le_trans HS9.out G2.size)
         have hlow2 : ∀ q,v2.ownBlock = some q -> w1.heap.size <= q:=fun q hq => (O2.lt q hq).1
         obtain ⟨a2,c2,rfl⟩:=own_shape O2
         refine ⟨⟨.inr trivial,hb2,hx2⟩,?_⟩
         have y5:=hb2.cell 5 _ rfl
         have f5:=hb2.free 5
         refine TillZ.value (i:=14) (v:=.pointer (some ⟨w.heap.size + 1,5,none⟩)) (by kernel_rfl) rfl rfl rfl (by go_simp) ⟨.inr trivial,hb2,hx2⟩ ?_
         simp only [pS,List.set,zT,zZ,zU]
         rw [<- HTK.out] at O2
         have HNR:=qH (own_other O2 (b:=w.heap.size + 1) (fun q hq => by have:=hlow2 q hq;omega) ⟨w.heap.size + 1,5,none⟩ (.slice a2 (m + 1) c2) rfl)
         have HNO:=qH (hb2.set (j:=5) (by simp) (.slice a2 (m + 1) c2))
         have HNZ:=qH (hzz2.other ⟨w.heap.size + 1,5,none⟩ (.slice a2 (m + 1) c2) (by simp))
         have HNB:=qH (HB10.out.setCell (p:=⟨w.heap.size + 1,5,none⟩) (by dsimp only;omega) (.slice a2 (m + 1) c2))
         have HNK:=qH (own_other hK2 (b:=w.heap.size + 1) (fun q hq => by have:=(HKLT.out q hq).1;have:=HSZ.out;omega) ⟨w.heap.size + 1,5,none⟩ (.slice a2 (m + 1) c2) rfl)
         have HNT:=qH (own_other hT2 (b:=w.heap.size + 1) (fun q hq => by have:=(HTLT.out q hq).1;omega) ⟨w.heap.size + 1,5,none⟩ (.slice a2 (m + 1) c2) rfl)
         have HNS : Hid (w1.heap.size <= (u2.setCell ⟨w.heap.size + 1,5,none⟩ (.slice a2 (m + 1) c2)).heap.size):=qH (by rw [World.size_setCell];exact HS10.out)
         clear hb2 hx2 hzz2 O2 G2 hO hL hK2 hT2 hb9 hx9 hS7 hlow hlow2
         refine TillZ.hand_skip (w':=u2.setCell ⟨w.heap.size + 1,5,none⟩ (.slice a2 (m + 1) c2)) (by kernel_rfl) rfl rfl (by go_simp) ?_
         simp only [pN,zT,zZ,zU]
         refine TillZ.any_done (by kernel_rfl) ?_ _
         clear y5 f5
         generalize u2.setCell ⟨w.heap.size + 1,5,none⟩ (.slice a2 (m + 1) c2) = u3 at *
         go_wp2_with fail
         go_roundw
         case rel => exact ⟨m + 1,_,by omega,by go_num,HNR,HNO,HNZ,HNB,HNK,HNT,HNS⟩
         case measure => simp [intOf];omega
     · have hge2 : ¬ (m : Int) < (b.is.length : Int):=by omega
       have hml : m = b.is.length:=by omega
       rw [hml] at HQR HQO
       rw [List.take_of_length_le (Nat.le_refl _)] at HQR
       have o0:=HQO.out.cell 0 _ rfl
       have z0:=HQZ.out.cell 0 _ rfl
       have k0:=HQZ.out.free 0
       have o1:=HQO.out.cell 1 _ rfl
       have z1:=HQZ.out.cell 1 _ rfl
       have k1:=HQZ.out.free 1
       have o2:=HQO.out.cell 2 _ rfl
       have z2:=HQZ.out.cell 2 _ rfl
       have k2:=HQZ.out.free 2
       have o3:=HQO.out.cell 3 _ rfl
       have z3:=HQZ.out.cell 3 _ rfl
       have k3:=HQZ.out.free 3
       have o4:=HQO.out.cell 4 _ rfl
       have z4:=HQZ.out.cell 4 _ rfl
       have k4:=HQZ.out.free 4
       have o5:=HQO.out.cell 5 _ rfl
       have z5:=HQZ.out.cell 5 _ rfl
       have k5:=HQZ.out.free 5
       obtain ⟨Y,hY⟩ : ∃ Y,Y = (((((wr.setCell ⟨w.heap.size,0,none⟩ (.int .i64 b.c0)).setCell ⟨w.heap.size,1,none⟩ (.int .i64 b.c1)).setCell ⟨w.heap.size,2,none⟩ (.int .i64 b.c2)).setCell ⟨w.heap.size,3,none⟩ (.int .i64 b.c3)).setCell ⟨w.heap.size,4,none⟩ (.slice pa b.ts.length pc)).setCell ⟨w.heap.size,5,none⟩ (.slice qa b.is.length qc):=⟨_,rfl⟩
       have HYB : Hid (Below w.heap.size w Y):=qH (by rw [hY];exact ((((((HQB.out.setCell (p:=⟨w.heap.size,0,none⟩) (Nat.le_refl _) (.int .i64 b.c0)).setCell (p:=⟨w.heap.size,1,none⟩) (Nat.le_refl _) (.int .i64 b.c1)).setCell (p:=⟨w.heap.size,2,none⟩) (Nat.le_refl _) (.int .i64 b.c2)).setCell (p:=⟨w.heap.size,3,none⟩) (Nat.le_refl _) (.int .i64 b.c3)).setCell (p:=⟨w.heap.size,4,none⟩) (Nat.le_refl _) (.slice pa b.ts.length pc)).setCell (p:=⟨w.heap.size,5,none⟩) (Nat.le_refl _) (.slice qa b.is.length qc)))
       have HYT : Hid (Y.ownsRow w.heap.size 97 tmE.k (.slice pa b.ts.length pc) b.ts.length (tmE.flat b.ts)):=qH (by rw [hY];exact (own_other (own_other (own_other (own_other (own_other (own_other (own_mono HQT.out (show w.heap.size <= w.heap.size + 2 by omega)) (b:=w.heap.size) (fun q hq => by have:=(HTLT.out q hq).1;omega) ⟨w.heap.size,0,none⟩ (.int .i64 b.c0) rfl) (b:=w.heap.size) (fun q hq => by have:=(HTLT.out q hq).1;omega) ⟨w.heap.size,1,none⟩ (.int .i64 b.c1) rfl) (b:=w.heap.size) (fun q hq => by have:=(HTLT.out q hq).1;omega) ⟨w.heap.size,2,none⟩ (.int .i64 b.c2) rfl) (b:=w.heap.size) (fun q hq => by have:=(HTLT.out q hq).1;omega) ⟨w.heap.size,3,none⟩ (.int .i64 b.c3) rfl) (b:=w.heap.size) (fun q hq => by have:=(HTLT.out q hq).1;omega) ⟨w.heap.size,4,none⟩ (.slice pa b.ts.length pc) rfl) (b:=w.heap.size) (fun q hq => by have:=(HTLT.out q hq).1;omega) ⟨w.heap.size,5,none⟩ (.slice qa b.is.length qc) rfl))
       have HYI : Hid (Y.ownsRow w.heap.size 62 imE.k (.slice qa b.is.length qc) b.is.length (imE.flat b.is)):=qH (by rw [hY];exact (own_other (own_other (own_other (own_other (own_other (own_other (own_mono HQR.out (show w.heap.size <= w1.heap.size by have:=HSZ.out;have:=HWL.out;omega)) (b:=w.heap.size) (fun q hq => by have:=(HQR.out.lt q hq).1;have:=HSZ.out;have:=HWL.out;omega) ⟨w.heap.size,0,none⟩ (.int .i64 b.c0) rfl) (b:=w.heap.size) (fun q hq => by have:=(HQR.out.lt q hq).1;have:=HSZ.out;have:=HWL.out;omega) ⟨w.heap.size,1,none⟩ (.int .i64 b.c1) rfl) (b:=w.heap.size) (fun q hq => by have:=(HQR.out.lt q hq).1;have:=HSZ.out;have:=HWL.out;omega) ⟨w.heap.size,2,none⟩ (.int .i64 b.c2) rfl) (b:=w.heap.size) (fun q hq => by have:=(HQR.out.lt q hq).1;have:=HSZ.out;have:=HWL.out;omega) ⟨w.heap.size,3,none⟩ (.int .i64 b.c3) rfl) (b:=w.heap.size) (fun q hq => by have:=(HQR.out.lt q hq).1;have:=HSZ.out;have:=HWL.out;omega) ⟨w.heap.size,4,none⟩ (.slice pa b.ts.length pc) rfl) (b:=w.heap.size) (fun q hq => by have:=(HQR.out.lt q hq).1;have:=HSZ.out;have:=HWL.out;omega) ⟨w.heap.size,5,none⟩ (.slice qa b.is.length qc) rfl))
       have hYZ:=((((((HQZ.out.set (j:=0) (by simp) (.int .i64 b.c0)).set (j:=1) (by simp) (.int .i64 b.c1)).set (j:=2) (by simp) (.int .i64 b.c2)).set (j:=3) (by simp) (.int .i64 b.c3)).set (j:=4) (by simp) (.slice pa b.ts.length pc)).set (j:=5) (by simp) (.slice qa b.is.length qc))
       rw [<- hY] at hYZ
       have g0:=hYZ.cell 0 _ rfl
       have g1:=hYZ.cell 1 _ rfl
       have g2:=hYZ.cell 2 _ rfl
       have g3:=hYZ.cell 3 _ rfl
       have g4:=hYZ.cell 4 _ rfl
       have g5:=hYZ.cell 5 _ rfl
       have HG:=qH (And.intro g0 (And.intro g1 (And.intro g2 (And.intro g3 (And.intro g4 g5)))))
       have HY:=qH hY
       clear g0 g1 g2 g3 g4 g5 hYZ hY hm hlt
       have hge3 : ¬ (m : Int) < (b.is.length : Int):=hge2
       rw [hml] at hge3
       go_wp2_with fail
       rw [<- HY.out]
       obtain ⟨g0,g1,g2,g3,g4,g5⟩:=HG.out
       exact bodyPost_ret (v:=.agg #[.int .i64 b.c0,.int .i64 b.c1,.int .i64 b.c2,.int .i64 b.c3,.slice pa b.ts.length pc,.slice qa b.is.length qc]) (by simp [results,Tryz.results133,go_sem,g0,g1,g2,g3,g4,g5]) rfl ⟨pa,b.ts.length,pc,qa,b.is.length,qc,rfl,⟨HYT.out,HYI.out⟩,HYB.out⟩
end Go.Proofs.YthkbcjnbmciolaaGreatDoor
namespace Go.Proofs.YthkbcjnbmciolaaGreatDoor
open Go.RowKit Go.PlainAid G IRow
set_option linter.unusedVariables false
theorem Dr.conf {w : World} {base B M : Nat} {v : Value} {b : Bk} (h : Dr w base B M v b) (q1 q2 q3 q4 : Int) :
 Dr ((((w.setCell ⟨B,0,none⟩ (.int .i64 q1)).setCell ⟨B,1,none⟩ (.int .i64 q2)).setCell ⟨B,2,none⟩ (.int .i64 q3)).setCell ⟨B,3,none⟩ (.int .i64 q4)) base B M v ⟨q1,q2,q3,q4,b.ts,b.is⟩ where
 box:=(((h.box.set (j:=0) (by simp) (.int .i64 q1)).set (j:=1) (by simp) (.int .i64 q2)).set (j:=2) (by simp) (.int .i64 q3)).set (j:=3) (by simp) (.int .i64 q4)
 row:=own_other (own_other (own_other (own_other h.row (b:=B) (fun q hq => (h.far q hq).1) ⟨B,0,none⟩ (.int .i64 q1) rfl) (b:=B) (fun q hq => (h.far q hq).1) ⟨B,1,none⟩ (.int .i64 q2) rfl) (b:=B) (fun q hq => (h.far q hq).1) ⟨B,2,none⟩ (.int .i64 q3) rfl) (b:=B) (fun q hq => (h.far q hq).1) ⟨B,3,none⟩ (.int .i64 q4) rfl
 far:=h.far
 hB:=h.hB
 hM:=h.hM
 ne:=h.ne
 map:=(((h.map.setCell (a:=⟨B,0,none⟩) h.ne _).setCell (a:=⟨B,1,none⟩) h.ne _).setCell (a:=⟨B,2,none⟩) h.ne _).setCell (a:=⟨B,3,none⟩) h.ne _
 rise:=h.rise
theorem below_conf {w0 w : World} {base B : Nat} (hb : Below base w0 w) (hB : base <= B) (q1 q2 q3 q4 : Int) :
 Below base w0 ((((w.setCell ⟨B,0,none⟩ (.int .i64 q1)).setCell ⟨B,1,none⟩ (.int .i64 q2)).setCell ⟨B,2,none⟩ (.int .i64 q3)).setCell ⟨B,3,none⟩ (.int .i64 q4)) :=
 (((hb.setCell (p:=⟨B,0,none⟩) hB (.int .i64 q1)).setCell (p:=⟨B,1,none⟩) hB (.int .i64 q2)).setCell (p:=⟨B,2,none⟩) hB (.int .i64 q3)).setCell (p:=⟨B,3,none⟩) hB (.int .i64 q4)
theorem Dr.terms {w : World} {base B M : Nat} {v v' : Value} {b : Bk} {ts' : List Tm} (h : Dr w base B M v b) (hr : w.ownsRow base 97 tmE.k v' ts'.length (tmE.flat ts')) (hf : ∀ q,v'.ownBlock = some q -> q ≠ B /\ q ≠ M) :
 Dr (w.setCell ⟨B,4,none⟩ v') base B M v' ⟨b.c0,b.c1,b.c2,b.c3,ts',b.is⟩ where
 box:=h.box.set (j:=4) (by simp) v'
 row:=own_other hr (b:=B) (fun q hq => (hf q hq).1) ⟨B,4,none⟩ v' rfl
 far:=hf
 hB:=h.hB
 hM:=h.hM
 ne:=h.ne
 map:=h.map.setCell (a:=⟨B,4,none⟩) h.ne _
 rise:=h.rise
theorem confDo_any (q1 q2 q3 q4 : Int) {w : World} {base B M : Nat} {v : Value} {b : Bk} (h : Dr w base B M v b) (hbs : base <= w.heap.size) :
 Calls Tryz.prog 212 #[.agg #[.int .i64 q1,.int .i64 q2,.int .i64 q3,.int .i64 q4],.pointer (some ⟨B,0,none⟩)] w fun e w' => e = .returned (.int .i64 0) /\ Dr w' base B M v ⟨q1,q2,q3,q4,b.ts,b.is⟩ /\ Below base w w':=by
 have HLT : Hid (∀ q,v.ownBlock = some q -> q < w.heap.size):=qH (fun q hq => (h.row.lt q hq).2)
 have HB1 : Hid (Dr (w.alloc (.cells #[.int .i64 q1,.int .i64 q2,.int .i64 q3,.int .i64 q4] 213)) base B M v b):=qH (h.below ((Below.refl _ _).alloc (Nat.le_refl _) _))
 have HBB : Hid (Below base w (w.alloc (.cells #[.int .i64 q1,.int .i64 q2,.int .i64 q3,.int .i64 q4] 213))):=qH ((Below.refl _ _).alloc hbs _)
 have HBS:=qH hbs
 clear h
 have x0:=HB1.out.box.cell 0 _ rfl
 have f0:=HB1.out.box.free 0
 have x1:=HB1.out.box.cell 1 _ rfl
 have f1:=HB1.out.box.free 1
 have x2:=HB1.out.box.cell 2 _ rfl
 have f2:=HB1.out.box.free 2
 have x3:=HB1.out.box.cell 3 _ rfl
 have f3:=HB1.out.box.free 3
 go_enter Tryz.func212,Tryz.ntmps212
 go_wp2_with fail
 go_ret
 exact ⟨rfl,HB1.out.conf q1 q2 q3 q4,below_conf HBB.out HB1.out.hB q1 q2 q3 q4⟩
theorem begin_any (q1 q2 q3 q4 : Int) {w : World} {base B M : Nat} {v : Value} {b : Bk} (h : Dr w base B M v b) (hbs : base <= w.heap.size) :
 Calls Tryz.prog 154 #[.pointer (some ⟨B,0,none⟩),.agg #[.int .i64 q1,.int .i64 q2,.int .i64 q3,.int .i64 q4]] w fun e w' => e = .returned (.tuple #[]) /\ ∃ v',Dr w' base B M v' ⟨q1,q2,q3,q4,[⟨1,⟨#[120]⟩⟩],b.is⟩ /\ Below base w w':=by
 have HLT : Hid (∀ q,v.ownBlock = some q -> q < w.heap.size):=qH (fun q hq => (h.row.lt q hq).2)
 have HB1 : Hid (Dr (w.alloc (.cells #[.int .i64 q1,.int .i64 q2,.int .i64 q3,.int .i64 q4] 213)) base B M v b):=qH (h.below ((Below.refl _ _).alloc (Nat.le_refl _) _))
 have HBB : Hid (Below base w (w.alloc (.cells #[.int .i64 q1,.int .i64 q2,.int .i64 q3,.int .i64 q4] 213))):=qH ((Below.refl _ _).alloc hbs _)
 have HBS:=qH hbs
 clear h
 have x0:=HB1.out.box.cell 0 _ rfl
 have f0:=HB1.out.box.free 0
 have x1:=HB1.out.box.cell 1 _ rfl
 have f1:=HB1.out.box.free 1
 have x2:=HB1.out.box.cell 2 _ rfl
 have f2:=HB1.out.box.free 2
 have x3:=HB1.out.box.cell 3 _ rfl
 have f3:=HB1.out.box.free 3
 have x4:=HB1.out.box.cell 4 _ rfl
 have f4:=HB1.out.box.free 4
 have HC:=qH (HB1.out.conf q1 q2 q3 q4)
 have HCB:=qH (below_conf HBB.out HB1.out.hB q1 q2 q3 q4)
 go_enter Tryz.func154,Tryz.ntmps154
 go_upto_region 2 with fail
 clear x0 f0 x1 f1 x2 f2 x3 f3 x4 f4
 generalize (((((w.alloc (.cells #[.int .i64 q1,.int .i64 q2,.int .i64 q3,.int .i64 q4] 213)).setCell ⟨B,0,none⟩ (.int .i64 q1)).setCell ⟨B,1,none⟩ (.int .i64 q2)).setCell ⟨B,2,none⟩ (.int .i64 q3)).setCell ⟨B,3,none⟩ (.int .i64 q4)) = V at *
 have HD:=qH (HC.out.below ((Below.refl _ _).alloc (Nat.le_refl _) (.cells #[.int .i64 1,.string ⟨#[120]⟩] 97)))
 have HDB:=qH (HCB.out.alloc (Nat.le_trans HBS.out HCB.out.size) (.cells #[.int .i64 1,.string ⟨#[120]⟩] 97))
 have HRW : Hid ((V.alloc (.cells #[.int .i64 1,.string ⟨#[120]⟩] 97)).ownsRow V.heap.size 97 tmE.k (.slice (some ⟨V.heap.size,0,none⟩) 1 1) 1 (tmE.flat [⟨1,⟨#[120]⟩⟩])):=qH (World.ownsRow_lit V #[.int .i64 1,.string ⟨#[120]⟩] 1 (Nat.le_refl _) (by decide) rfl)
 have x4:=HD.out.box.cell 4 _ rfl
 have f4:=HD.out.box.free 4
 go_wp2_with fail
 refine bodyPost_end (v:=.tuple #[]) (by simp [results,Tryz.results154,go_sem]) rfl ?_
 refine ⟨rfl,_,HD.out.terms (ts':=[⟨1,⟨#[120]⟩⟩]) (own_mono HRW.out (Nat.le_trans HBS.out HCB.out.size)) (fun q hq => ?_),HDB.out.setCell (p:=⟨B,4,none⟩) HD.out.hB _⟩
 simp [Value.ownBlock] at hq
 have h1:=HC.out.box.lt
 have h2:=World.ownsMap.lt HC.out.map
 omega
def lookI (is : List Im) (nm : ByteArray) : Im:=if hasI is nm = true then is.getD (atI is nm) imD else ⟨⟨#[]⟩,0,⟨#[]⟩⟩
theorem look_any {is : List Im} (hr : RiseI is) {u : World} {M n : Nat} (hown : u.ownsMap Tryz.prog 9 imR M n (mapI is)) {nm : ByteArray} (hq : nm.size <= maxLen) :
 (Instr.lookup 207 (.map (some M)) (.string nm) true).run Tryz.prog u = .ok (.tuple #[.agg #[.string (lookI is nm).nm,.int .i64 (lookI is nm).tm,.string (lookI is nm).bd],.bool (hasI is nm)]) u:=by
 obtain ⟨v,ps,hrun,hv⟩:=hown.look_ok keyS Tryz.underlying207 (zeroItem u) (zd:=imDat ⟨⟨#[]⟩,0,⟨#[]⟩⟩) (zp:=[]) rfl (imKey_of hq)
 rw [has_mapI nm hr] at hrun
 have hx : (mapI is).atKey (imKey nm) (imDat ⟨⟨#[]⟩,0,⟨#[]⟩⟩) = imDat (lookI is nm):=by
  unfold lookI
  cases hh : hasI is nm
  · rw [if_neg (by decide)]
    exact Maps.atKey_of_not_has (by rw [has_mapI nm hr,hh]) _
  · rw [if_pos rfl]
    unfold hasI at hh
    rw [Bool.and_eq_true,decide_eq_true_eq,decide_eq_true_eq] at hh
    have hm : is.getD (atI is nm) imD ∈ is:=by
     rw [List.getD,List.getElem?_eq_getElem hh.1]
     exact List.getElem_mem hh.1
    have:=at_mapI hr hm (imDat ⟨⟨#[]⟩,0,⟨#[]⟩⟩)
    rwa [hh.2] at this
 rw [hx] at hv
 have hv2:=imR_inv hv
 rw [hrun,hv2]
theorem own_apart {w w' : World} {base : Nat} {e : TypeId} {size : Nat} {v : Value} {n : Nat} {xs : List Value} {M : Nat} (h : w.ownsRow base e size v n xs) (hg : w.grownBy w' (some M)) (hne : ∀ g,v.ownBlock = some g -> g ≠ M) : w'.ownsRow base e size v n xs:=by
 refine h.kept hg ?_
 cases hv : v.ownBlock with
 | none => exact .inl rfl
 | some g => exact .inr (fun e => hne g hv (Option.some.inj e))
theorem Dr.mapped {w w' : World} {base B M n : Nat} {v : Value} {b : Bk} {is' : List Im} (h : Dr w base B M v b) (hg : w.grownBy w' (some M)) (hm : w'.ownsMap Tryz.prog 9 imR M n (mapI is')) (hr : RiseI is') : Dr w' base B M v ⟨b.c0,b.c1,b.c2,b.c3,b.ts,is'⟩ where
 box:=h.box.grown hg (fun e => h.ne (Option.some.inj e).symm)
 row:=own_apart h.row hg (fun q hq => (h.far q hq).2)
 far:=h.far
 hB:=h.hB
 hM:=h.hM
 ne:=h.ne
 map:=by have:=map_tight hm;rwa [size_mapI] at this
 rise:=hr
theorem imR_shape {v : Value} {z : DataW Unit × List MemPlace} (h : imR v = some z) : ∃ nm tm bd,v = .agg #[.string nm,.int .i64 tm,.string bd]:=by
 unfold imR at h
 split at h
 · split at h
   · rename_i e
     exact ⟨_,_,_,congrArg Value.agg (Array.toList_inj.1 e)⟩
   · cases h
 · cases h
theorem delDo_no (q7 : ByteArray) {w : World} {base B M : Nat} {v : Value} {b : Bk} (h : Dr w base B M v b) (hbs : base <= w.heap.size) (hq : q7.size <= maxLen) (hh : hasI b.is q7 = false) :
 Calls Tryz.prog 229 #[.string q7,.pointer (some ⟨B,0,none⟩)] w fun e w' => e = .returned (.int .i64 6) /\ Below base w w':=by
 have x5:=h.box.cell 5 _ rfl
 have HB1:=qH h
 have HBB : Hid (Below base w w):=qH (Below.refl _ _)
 have HBS:=qH hbs
 have HHAS:=qH hh
 clear h hh
 go_enter Tryz.func229,Tryz.ntmps229
 go_wp2_with (at_lookup;refine wpList_lookup_own_ok _ rfl _ _ 207 rfl 9 62 keyS Tryz.underlying207 imR (zeroItem _) (imDat ⟨⟨#[]⟩,0,⟨#[]⟩⟩) [] rfl M _ (mapI b.is) rfl HB1.out.map _ (imKey q7) rfl (imKey_of hq) ?_;intro vv ps hv;obtain ⟨vn,vt,vb,rfl⟩:=imR_shape hv;rw [has_mapI _ HB1.out.rise,HHAS.out];clear hv;have HB2:=qH (HB1.out.below ((Below.refl _ _).alloc (Nat.le_refl _) (.cells #[.string vn,.int .i64 vt,.string vb] 62)));have HBB2:=qH (HBB.out.alloc (Nat.le_trans HBS.out HBB.out.size) (.cells #[.string vn,.int .i64 vt,.string vb] 62));have y5:=HB2.out.box.cell 5 _ rfl;have y4:=HB2.out.box.cell 4 _ rfl)
 go_ret
 exact ⟨rfl,HBB2.out⟩
theorem delDo_yes (q7 : ByteArray) {w : World} {base B M : Nat} {v : Value} {b : Bk} (h : Dr w base B M v b) (hbs : base <= w.heap.size) (hq : q7.size <= maxLen) (hh : hasI b.is q7 = true) :
 Calls Tryz.prog 229 #[.string q7,.pointer (some ⟨B,0,none⟩)] w fun e w' => e = .returned (.int .i64 0) /\ Dr w' base B M v ⟨b.c0,b.c1,b.c2,b.c3,b.ts,genI [] q7 b.is⟩ /\ Below base w w':=by
 have x5:=h.box.cell 5 _ rfl
 have HB1:=qH h
 have HBB : Hid (Below base w w):=qH (Below.refl _ _)
 have HBS:=qH hbs
 have HHAS:=qH hh
 clear h hh
 go_enter Tryz.func229,Tryz.ntmps229
 go_wp2_with (first | (at_lookup;refine wpList_lookup_own_ok _ rfl _ _ 207 rfl 9 62 keyS Tryz.underlying207 imR (zeroItem _) (imDat ⟨⟨#[]⟩,0,⟨#[]⟩⟩) [] rfl M _ (mapI b.is) rfl HB1.out.map _ (imKey q7) rfl (imKey_of hq) ?_;intro vv ps hv;obtain ⟨vn,vt,vb,rfl⟩:=imR_shape hv;rw [has_mapI _ HB1.out.rise,HHAS.out];clear hv;have HB2:=qH (HB1.out.below ((Below.refl _ _).alloc (Nat.le_refl _) (.cells #[.string vn,.int .i64 vt,.string vb] 62)));have HBB2:=qH (HBB.out.alloc (Nat.le_trans HBS.out HBB.out.size) (.cells #[.string vn,.int .i64 vt,.string vb] 62));have y5:=HB2.out.box.cell 5 _ rfl;have y4:=HB2.out.box.cell 4 _ rfl) | (at_delete;refine wpList_delete_own _ rfl _ _ 207 9 rfl 62 keyS Tryz.underlying207 imR M _ (mapI b.is) rfl HB2.out.map _ (imKey q7) rfl (imKey_of hq) ?_;intro w1 hown1 hturn1;have HT:=qH hturn1.grown;have HO:=qH hown1;clear hown1 hturn1))
 go_ret
 exact ⟨rfl,HB2.out.mapped HT.out (by rw [mapI_del HB1.out.rise];exact HO.out) (gen_rise (.inl rfl) HB1.out.rise),HBB2.out.grown HT.out (Nat.le_trans HBS.out HBB2.out.size) (fun q hq => by have:=HB1.out.hM;simp at hq;omega)⟩
theorem putDo_none (q7 : ByteArray) (q8 : Int) (q9 : ByteArray) {w : World} {base B M : Nat} {v : Value} {b : Bk} (h : Dr w base B M v b) (hbs : base <= w.heap.size) (hq : q7.size <= maxLen) (ht : b.ts.length <= 5) (hi : b.is.length <= 8) (hn : (b.ts.length : Int) < q8) :
 Calls Tryz.prog 222 #[.agg #[.string q7,.int .i64 q8,.string q9],.pointer (some ⟨B,0,none⟩)] w fun e w' => e = .returned (.int .i64 6) /\ Below base w w':=by
 have HX : Hid (BoxC (w.alloc (.cells #[.string q7,.int .i64 q8,.string q9] 220)) w.heap.size [.string q7,.int .i64 q8,.string q9]):=qH (BoxC.made _ _ _)
 have HLT : Hid (∀ q,v.ownBlock = some q -> q < w.heap.size):=qH (fun q hq => (h.row.lt q hq).2)
 have HB1 : Hid (Dr (w.alloc (.cells #[.string q7,.int .i64 q8,.string q9] 220)) base B M v b):=qH (h.below ((Below.refl _ _).alloc (Nat.le_refl _) _))
 have HBB : Hid (Below base w (w.alloc (.cells #[.string q7,.int .i64 q8,.string q9] 220))):=qH ((Below.refl _ _).alloc hbs _)
 have HBS:=qH hbs
 clear h
 obtain ⟨va,vc,rfl⟩:=own_shape HB1.out.row
 obtain ⟨V,hV⟩ : ∃ V,V = w.alloc (.cells #[.string q7,.int .i64 q8,.string q9] 220):=⟨_,rfl⟩
 rw [<- hV] at HX HB1 HBB
 have HBV:=qH (show base <= V.heap.size from Nat.le_trans HBS.out HBB.out.size)
 have x5:=HB1.out.box.cell 5 _ rfl
 have x4:=HB1.out.box.cell 4 _ rfl
 have d0:=HX.out.cell 0 _ rfl
 have d1:=HX.out.cell 1 _ rfl
 have d2:=HX.out.cell 2 _ rfl
 have hw : IntKind.i64.wrap (b.ts.length : Int) = (b.ts.length : Int):=IntWalk.i64_in _ (by omega)
 go_enter Tryz.func222,Tryz.ntmps222
 go_upto_region 1 with fail
 rw [<- hV]
 clear hV
 go_region
 go_wp2_with fail
 go_ret
 exact ⟨rfl,HBB.out.drew⟩
theorem putDo_full (q7 : ByteArray) (q8 : Int) (q9 : ByteArray) {w : World} {base B M : Nat} {v : Value} {b : Bk} (h : Dr w base B M v b) (hbs : base <= w.heap.size) (hq : q7.size <= maxLen) (ht : b.ts.length <= 5) (hi : b.is.length <= 8) (hn : ¬ (b.ts.length : Int) < q8) (hh : hasI b.is q7 = false) (h8 : 8 <= b.is.length) :
 Calls Tryz.prog 222 #[.agg #[.string q7,.int .i64 q8,.string q9],.pointer (some ⟨B,0,none⟩)] w fun e w' => e = .returned (.int .i64 9) /\ Below base w w':=by
 have HX : Hid (BoxC (w.alloc (.cells #[.string q7,.int .i64 q8,.string q9] 220)) w.heap.size [.string q7,.int .i64 q8,.string q9]):=qH (BoxC.made _ _ _)
 have HLT : Hid (∀ q,v.ownBlock = some q -> q < w.heap.size):=qH (fun q hq => (h.row.lt q hq).2)
 have HB1 : Hid (Dr (w.alloc (.cells #[.string q7,.int .i64 q8,.string q9] 220)) base B M v b):=qH (h.below ((Below.refl _ _).alloc (Nat.le_refl _) _))
 have HBB : Hid (Below base w (w.alloc (.cells #[.string q7,.int .i64 q8,.string q9] 220))):=qH ((Below.refl _ _).alloc hbs _)
 have HBS:=qH hbs
 clear h
 obtain ⟨va,vc,rfl⟩:=own_shape HB1.out.row
 obtain ⟨V,hV⟩ : ∃ V,V = w.alloc (.cells #[.string q7,.int .i64 q8,.string q9] 220):=⟨_,rfl⟩
 rw [<- hV] at HX HB1 HBB
 have HBV:=qH (show base <= V.heap.size from Nat.le_trans HBS.out HBB.out.size)
 have x5:=HB1.out.box.cell 5 _ rfl
 have x4:=HB1.out.box.cell 4 _ rfl
 have d0:=HX.out.cell 0 _ rfl
 have d1:=HX.out.cell 1 _ rfl
 have d2:=HX.out.cell 2 _ rfl
 have hw : IntKind.i64.wrap (b.ts.length : Int) = (b.ts.length : Int):=IntWalk.i64_in _ (by omega)
 go_enter Tryz.func222,Tryz.ntmps222
 go_upto_region 1 with fail
 rw [<- hV]
 clear hV
 have HHAS:=qH hh
 clear hh
 go_region
 go_upto_region 3 with fail
 clear x4 x5 d0 d1 d2
 have hmx : Tryz.prog.follows .mixedOrders = true:=by kernel_rfl
 have HDR : Hid (∀ u,Below V.drew.drew.heap.size V.drew.drew u -> Dr u base B M (.slice va b.ts.length vc) b):=qH (fun u hu => (HB1.out.below (Below.refl _ _).drew.drew).below hu)
 have HDX : Hid (∀ u,Below V.drew.drew.heap.size V.drew.drew u -> BoxC u w.heap.size [.string q7,.int .i64 q8,.string q9]):=qH (fun u hu => (HX.out.below (Below.refl _ _).drew.drew).below hu)
 have HBU : Hid (∀ u,Below V.drew.drew.heap.size V.drew.drew u -> Below base w u):=qH (fun u hu => HBB.out.drew.drew.trans (hu.mono HBV.out))
 refine TillZ.region (t:=12) hmx (fun u => Below V.drew.drew.heap.size V.drew.drew u) ?_
 have hS0 : Below V.drew.drew.heap.size V.drew.drew V.drew.drew:=Below.refl _ _
 refine TillZ.take4 (i:=0) (v:=.pointer (some ⟨B,0,none⟩)) rfl rfl rfl (by kernel_rfl) hS0 (fun u hu => by go_simp) ?_
 simp only [pS,List.set,zT,zZ]
 refine TillZ.take4 (i:=1) (v:=.pointer (some ⟨B,0,none⟩)) rfl rfl rfl (by kernel_rfl) hS0 (fun u hu => by go_simp) ?_
 simp only [pS,List.set,zT,zZ,zU]
 refine TillZ.take4 (i:=2) (v:=.pointer (some ⟨B,5,none⟩)) rfl rfl rfl (by kernel_rfl) hS0 (fun u hu => by go_simp) ?_
 simp only [pS,List.set,zT,zZ,zU]
 refine TillZ.take4 (i:=3) (v:=.map (some M)) rfl rfl rfl (by kernel_rfl) hS0 (fun u hu => by have z:=(HDR.out u hu).box.cell 5 _ rfl;go_simp) ?_
 simp only [pS,List.set,zT,zZ,zU]
 refine TillZ.take4 (i:=4) (v:=.pointer (some ⟨w.heap.size,0,none⟩)) rfl rfl rfl (by kernel_rfl) hS0 (fun u hu => by go_simp) ?_
 simp only [pS,List.set,zT,zZ,zU]
 refine TillZ.take4 (i:=5) (v:=.string q7) rfl rfl rfl (by kernel_rfl) hS0 (fun u hu => by have z:=(HDX.out u hu).cell 0 _ rfl;go_simp) ?_
 simp only [pS,List.set,zT,zZ,zU]
 refine TillZ.take4 (i:=6) (v:=.tuple #[.agg #[.string (lookI b.is q7).nm,.int .i64 (lookI b.is q7).tm,.string (lookI b.is q7).bd],.bool false]) rfl rfl rfl (by kernel_rfl) hS0 (fun u hu => by have z:=look_any (HDR.out u hu).rise (HDR.out u hu).map hq;rw [HHAS.out] at z;go_simp) ?_
 simp only [pS,List.set,zT,zZ,zU]
 refine TillZ.take4 (i:=7) (v:=.tuple #[.agg #[.string (lookI b.is q7).nm,.int .i64 (lookI b.is q7).tm,.string (lookI b.is q7).bd],.bool false]) rfl rfl rfl (by kernel_rfl) hS0 (fun u hu => by go_simp) ?_
 simp only [pS,List.set,zT,zZ,zU]
 refine TillZ.take4 (i:=8) (v:=.agg #[.string (lookI b.is q7).nm,.int .i64 (lookI b.is q7).tm,.string (lookI b.is q7).bd]) rfl rfl rfl (by kernel_rfl) hS0 (fun u hu => by go_simp) ?_
 simp only [pS,List.set,zT,zZ,zU]
 refine TillZ.take4 (i:=9) (v:=.bool false) rfl rfl rfl (by kernel_rfl) hS0 (fun u hu => by go_simp) ?_
 simp only [pS,List.set,zT,zZ,zU]
 refine TillZ.one (i:=10) (by kernel_rfl) ?_
 refine TillZ.opz (i:=10) (v:=.pointer (some ⟨V.heap.size,0,none⟩)) (w':=V.drew.drew.alloc (.cells #[.string ⟨#[]⟩,.int .i64 0,.string ⟨#[]⟩] 62)) rfl rfl rfl (by go_simp) (hS0.alloc (Nat.le_refl _) _) ?_
 simp only [pS,List.set,zT,zZ,zU]
 refine TillZ.one (i:=11) (by kernel_rfl) ?_
 refine TillZ.opz_skip (i:=11) (w':=V.drew.drew.alloc (.cells #[.string (lookI b.is q7).nm,.int .i64 (lookI b.is q7).tm,.string (lookI b.is q7).bd] 62)) rfl rfl rfl (by go_simp) (hS0.alloc (Nat.le_refl _) _) ?_
 simp only [pN,zT,zZ,zU]
 have S3:=hS0.alloc (Nat.le_refl _) (.cells #[.string (lookI b.is q7).nm,.int .i64 (lookI b.is q7).tm,.string (lookI b.is q7).bd] 62)
 generalize V.drew.drew.alloc (.cells #[.string (lookI b.is q7).nm,.int .i64 (lookI b.is q7).tm,.string (lookI b.is q7).bd] 62) = W3 at *
 refine TillZ.hand (v:=.bool false) (by kernel_rfl) rfl rfl (by go_simp) ?_
 simp only [pS,List.set,zT,zZ,zU]
 refine TillZ.any_done (by kernel_rfl) ?_ _
 have HB2:=qH (HDR.out _ S3)
 have HX2:=qH (HDX.out _ S3)
 have HBB2:=qH (HBU.out _ S3)
 have x5:=HB2.out.box.cell 5 _ rfl
 have x4:=HB2.out.box.cell 4 _ rfl
 have d0:=HX2.out.cell 0 _ rfl
 have d1:=HX2.out.cell 1 _ rfl
 have d2:=HX2.out.cell 2 _ rfl
 clear S3 hS0
 have hlen:=fun ty => World.ownsMap.len HB2.out.map Tryz.underlying207 ty
 rw [size_mapI] at hlen
 have h8' : (8 : Int) <= (b.is.length : Int):=by omega
 go_wp2_with fail
 go_ret
 exact ⟨rfl,HBB2.out⟩
theorem putDo_old (q7 : ByteArray) (q8 : Int) (q9 : ByteArray) {w : World} {base B M : Nat} {v : Value} {b : Bk} (h : Dr w base B M v b) (hbs : base <= w.heap.size) (hq : q7.size <= maxLen) (ht : b.ts.length <= 5) (hi : b.is.length <= 8) (hn : ¬ (b.ts.length : Int) < q8) (hh : hasI b.is q7 = true)  :
 Calls Tryz.prog 222 #[.agg #[.string q7,.int .i64 q8,.string q9],.pointer (some ⟨B,0,none⟩)] w fun e w' => e = .returned (.int .i64 0) /\ Dr w' base B M v ⟨b.c0,b.c1,b.c2,b.c3,b.ts,genI [⟨q7,q8,q9⟩] q7 b.is⟩ /\ Below base w w':=by
 have HX : Hid (BoxC (w.alloc (.cells #[.string q7,.int .i64 q8,.string q9] 220)) w.heap.size [.string q7,.int .i64 q8,.string q9]):=qH (BoxC.made _ _ _)
 have HLT : Hid (∀ q,v.ownBlock = some q -> q < w.heap.size):=qH (fun q hq => (h.row.lt q hq).2)
 have HB1 : Hid (Dr (w.alloc (.cells #[.string q7,.int .i64 q8,.string q9] 220)) base B M v b):=qH (h.below ((Below.refl _ _).alloc (Nat.le_refl _) _))
 have HBB : Hid (Below base w (w.alloc (.cells #[.string q7,.int .i64 q8,.string q9] 220))):=qH ((Below.refl _ _).alloc hbs _)
 have HBS:=qH hbs
 clear h
 obtain ⟨va,vc,rfl⟩:=own_shape HB1.out.row
 obtain ⟨V,hV⟩ : ∃ V,V = w.alloc (.cells #[.string q7,.int .i64 q8,.string q9] 220):=⟨_,rfl⟩
 rw [<- hV] at HX HB1 HBB
 have HBV:=qH (show base <= V.heap.size from Nat.le_trans HBS.out HBB.out.size)
 have x5:=HB1.out.box.cell 5 _ rfl
 have x4:=HB1.out.box.cell 4 _ rfl
 have d0:=HX.out.cell 0 _ rfl
 have d1:=HX.out.cell 1 _ rfl
 have d2:=HX.out.cell 2 _ rfl
 have hw : IntKind.i64.wrap (b.ts.length : Int) = (b.ts.length : Int):=IntWalk.i64_in _ (by omega)
 go_enter Tryz.func222,Tryz.ntmps222
 go_upto_region 1 with fail
 rw [<- hV]
 clear hV
 have HHAS:=qH hh
 clear hh
 go_region
 go_upto_region 3 with fail
 clear x4 x5 d0 d1 d2
 have hmx : Tryz.prog.follows .mixedOrders = true:=by kernel_rfl
 have HDR : Hid (∀ u,Below V.drew.drew.heap.size V.drew.drew u -> Dr u base B M (.slice va b.ts.length vc) b):=qH (fun u hu => (HB1.out.below (Below.refl _ _).drew.drew).below hu)
 have HDX : Hid (∀ u,Below V.drew.drew.heap.size V.drew.drew u -> BoxC u w.heap.size [.string q7,.int .i64 q8,.string q9]):=qH (fun u hu => (HX.out.below (Below.refl _ _).drew.drew).below hu)
 have HBU : Hid (∀ u,Below V.drew.drew.heap.size V.drew.drew u -> Below base w u):=qH (fun u hu => HBB.out.drew.drew.trans (hu.mono HBV.out))
 refine TillZ.region (t:=12) hmx (fun u => Below V.drew.drew.heap.size V.drew.drew u) ?_
 have hS0 : Below V.drew.drew.heap.size V.drew.drew V.drew.drew:=Below.refl _ _
 refine TillZ.take4 (i:=0) (v:=.pointer (some ⟨B,0,none⟩)) rfl rfl rfl (by kernel_rfl) hS0 (fun u hu => by go_simp) ?_
 simp only [pS,List.set,zT,zZ]
 refine TillZ.take4 (i:=1) (v:=.pointer (some ⟨B,0,none⟩)) rfl rfl rfl (by kernel_rfl) hS0 (fun u hu => by go_simp) ?_
 simp only [pS,List.set,zT,zZ,zU]
 refine TillZ.take4 (i:=2) (v:=.pointer (some ⟨B,5,none⟩)) rfl rfl rfl (by kernel_rfl) hS0 (fun u hu => by go_simp) ?_
 simp only [pS,List.set,zT,zZ,zU]
 refine TillZ.take4 (i:=3) (v:=.map (some M)) rfl rfl rfl (by kernel_rfl) hS0 (fun u hu => by have z:=(HDR.out u hu).box.cell 5 _ rfl;go_simp) ?_
 simp only [pS,List.set,zT,zZ,zU]
 refine TillZ.take4 (i:=4) (v:=.pointer (some ⟨w.heap.size,0,none⟩)) rfl rfl rfl (by kernel_rfl) hS0 (fun u hu => by go_simp) ?_
 simp only [pS,List.set,zT,zZ,zU]
 refine TillZ.take4 (i:=5) (v:=.string q7) rfl rfl rfl (by kernel_rfl) hS0 (fun u hu => by have z:=(HDX.out u hu).cell 0 _ rfl;go_simp) ?_
 simp only [pS,List.set,zT,zZ,zU]
 refine TillZ.take4 (i:=6) (v:=.tuple #[.agg #[.string (lookI b.is q7).nm,.int .i64 (lookI b.is q7).tm,.string (lookI b.is q7).bd],.bool true]) rfl rfl rfl (by kernel_rfl) hS0 (fun u hu => by have z:=look_any (HDR.out u hu).rise (HDR.out u hu).map hq;rw [HHAS.out] at z;go_simp) ?_
 simp only [pS,List.set,zT,zZ,zU]
 refine TillZ.take4 (i:=7) (v:=.tuple #[.agg #[.string (lookI b.is q7).nm,.int .i64 (lookI b.is q7).tm,.string (lookI b.is q7).bd],.bool true]) rfl rfl rfl (by kernel_rfl) hS0 (fun u hu => by go_simp) ?_
 simp only [pS,List.set,zT,zZ,zU]
 refine TillZ.take4 (i:=8) (v:=.agg #[.string (lookI b.is q7).nm,.int .i64 (lookI b.is q7).tm,.string (lookI b.is q7).bd]) rfl rfl rfl (by kernel_rfl) hS0 (fun u hu => by go_simp) ?_
 simp only [pS,List.set,zT,zZ,zU]
 refine TillZ.take4 (i:=9) (v:=.bool true) rfl rfl rfl (by kernel_rfl) hS0 (fun u hu => by go_simp) ?_
 simp only [pS,List.set,zT,zZ,zU]
 refine TillZ.one (i:=10) (by kernel_rfl) ?_
 refine TillZ.opz (i:=10) (v:=.pointer (some ⟨V.heap.size,0,none⟩)) (w':=V.drew.drew.alloc (.cells #[.string ⟨#[]⟩,.int .i64 0,.string ⟨#[]⟩] 62)) rfl rfl rfl (by go_simp) (hS0.alloc (Nat.le_refl _) _) ?_
 simp only [pS,List.set,zT,zZ,zU]
 refine TillZ.one (i:=11) (by kernel_rfl) ?_
 refine TillZ.opz_skip (i:=11) (w':=V.drew.drew.alloc (.cells #[.string (lookI b.is q7).nm,.int .i64 (lookI b.is q7).tm,.string (lookI b.is q7).bd] 62)) rfl rfl rfl (by go_simp) (hS0.alloc (Nat.le_refl _) _) ?_
 simp only [pN,zT,zZ,zU]
 have S3:=hS0.alloc (Nat.le_refl _) (.cells #[.string (lookI b.is q7).nm,.int .i64 (lookI b.is q7).tm,.string (lookI b.is q7).bd] 62)
 generalize V.drew.drew.alloc (.cells #[.string (lookI b.is q7).nm,.int .i64 (lookI b.is q7).tm,.string (lookI b.is q7).bd] 62) = W3 at *
 refine TillZ.hand (v:=.bool true) (by kernel_rfl) rfl rfl (by go_simp) ?_
 simp only [pS,List.set,zT,zZ,zU]
 refine TillZ.any_done (by kernel_rfl) ?_ _
 have HB2:=qH (HDR.out _ S3)
 have HX2:=qH (HDX.out _ S3)
 have HBB2:=qH (HBU.out _ S3)
 have x5:=HB2.out.box.cell 5 _ rfl
 have x4:=HB2.out.box.cell 4 _ rfl
 have d0:=HX2.out.cell 0 _ rfl
 have d1:=HX2.out.cell 1 _ rfl
 have d2:=HX2.out.cell 2 _ rfl
 clear S3 hS0
 go_wp2_with fail
 have HBV3:=qH (Nat.le_trans HBS.out HBB2.out.size)
 clear x4 x5 d0 d1 d2
 refine TillZ.region (t:=7) hmx (fun u => Below W3.heap.size W3 u) ?_
 have hS0 : Below W3.heap.size W3 W3.drew:=(Below.refl _ _).drew
 have HD3 : Hid (∀ u,Below W3.heap.size W3 u -> Dr u base B M (.slice va b.ts.length vc) b):=qH (fun u hu => HB2.out.below hu)
 have HX3 : Hid (∀ u,Below W3.heap.size W3 u -> BoxC u w.heap.size [.string q7,.int .i64 q8,.string q9]):=qH (fun u hu => HX2.out.below hu)
 refine TillZ.take4 (i:=0) (v:=.pointer (some ⟨B,0,none⟩)) rfl rfl rfl (by kernel_rfl) hS0 (fun u hu => by go_simp) ?_
 simp only [pS,List.set,zT,zZ]
 refine TillZ.take4 (i:=1) (v:=.pointer (some ⟨B,0,none⟩)) rfl rfl rfl (by kernel_rfl) hS0 (fun u hu => by go_simp) ?_
 simp only [pS,List.set,zT,zZ,zU]
 refine TillZ.take4 (i:=2) (v:=.pointer (some ⟨B,5,none⟩)) rfl rfl rfl (by kernel_rfl) hS0 (fun u hu => by go_simp) ?_
 simp only [pS,List.set,zT,zZ,zU]
 refine TillZ.take4 (i:=3) (v:=.map (some M)) rfl rfl rfl (by kernel_rfl) hS0 (fun u hu => by have z:=(HD3.out u hu).box.cell 5 _ rfl;go_simp) ?_
 simp only [pS,List.set,zT,zZ,zU]
 refine TillZ.take4 (i:=4) (v:=.pointer (some ⟨w.heap.size,0,none⟩)) rfl rfl rfl (by kernel_rfl) hS0 (fun u hu => by go_simp) ?_
 simp only [pS,List.set,zT,zZ,zU]
 refine TillZ.take4 (i:=5) (v:=.string q7) rfl rfl rfl (by kernel_rfl) hS0 (fun u hu => by have z:=(HX3.out u hu).cell 0 _ rfl;go_simp) ?_
 simp only [pS,List.set,zT,zZ,zU]
 refine TillZ.take4 (i:=6) (v:=.agg #[.string q7,.int .i64 q8,.string q9]) rfl rfl rfl (by kernel_rfl) hS0 (fun u hu => by have z0:=(HX3.out u hu).cell 0 _ rfl;have z1:=(HX3.out u hu).cell 1 _ rfl;have z2:=(HX3.out u hu).cell 2 _ rfl;go_simp) ?_
 simp only [pS,List.set,zT,zZ,zU]
 obtain ⟨w4,hrun,hown,hgr⟩:=World.ownsMap.update (HD3.out _ hS0).map keyS Tryz.underlying207 (by unfold maxLen;omega) (imKey_of hq) (show imR (.agg #[.string q7,.int .i64 q8,.string q9]) = some (imDat ⟨q7,q8,q9⟩,[]) from rfl)
 have HO:=qH hown
 have HT:=qH hgr
 have HDD:=qH (HD3.out _ hS0)
 have HBD:=qH (HBB2.out.drew)
 clear hown hgr
 refine TillZ.hand_skip (w':=w4) (by kernel_rfl) rfl rfl (by go_simp) ?_
 simp only [pN,zT,zZ,zU]
 refine TillZ.any_done (by kernel_rfl) ?_ _
 go_wp2_with fail
 go_ret
 exact ⟨rfl,HDD.out.mapped HT.out (by rw [mapI_put (x:=⟨q7,q8,q9⟩) HB2.out.rise];exact HO.out) (gen_rise (.inr ⟨_,rfl,rfl⟩) HB2.out.rise),HBD.out.grown HT.out HBV3.out (fun q hq => by have:=HB2.out.hM;simp at hq;omega)⟩
theorem putDo_new (q7 : ByteArray) (q8 : Int) (q9 : ByteArray) {w : World} {base B M : Nat} {v : Value} {b : Bk} (h : Dr w base B M v b) (hbs : base <= w.heap.size) (hq : q7.size <= maxLen) (ht : b.ts.length <= 5) (hi : b.is.length <= 8) (hn : ¬ (b.ts.length : Int) < q8) (hh : hasI b.is q7 = false) (h8 : ¬ 8 <= b.is.length) :
 Calls Tryz.prog 222 #[.agg #[.string q7,.int .i64 q8,.string q9],.pointer (some ⟨B,0,none⟩)] w fun e w' => e = .returned (.int .i64 0) /\ Dr w' base B M v ⟨b.c0,b.c1,b.c2,b.c3,b.ts,genI [⟨q7,q8,q9⟩] q7 b.is⟩ /\ Below base w w':=by
 have HX : Hid (BoxC (w.alloc (.cells #[.string q7,.int .i64 q8,.string q9] 220)) w.heap.size [.string q7,.int .i64 q8,.string q9]):=qH (BoxC.made _ _ _)
 have HLT : Hid (∀ q,v.ownBlock = some q -> q < w.heap.size):=qH (fun q hq => (h.row.lt q hq).2)
 have HB1 : Hid (Dr (w.alloc (.cells #[.string q7,.int .i64 q8,.string q9] 220)) base B M v b):=qH (h.below ((Below.refl _ _).alloc (Nat.le_refl _) _))
 have HBB : Hid (Below base w (w.alloc (.cells #[.string q7,.int .i64 q8,.string q9] 220))):=qH ((Below.refl _ _).alloc hbs _)
 have HBS:=qH hbs
 clear h
 obtain ⟨va,vc,rfl⟩:=own_shape HB1.out.row
 obtain ⟨V,hV⟩ : ∃ V,V = w.alloc (.cells #[.string q7,.int .i64 q8,.string q9] 220):=⟨_,rfl⟩
 rw [<- hV] at HX HB1 HBB
 have HBV:=qH (show base <= V.heap.size from Nat.le_trans HBS.out HBB.out.size)
 have x5:=HB1.out.box.cell 5 _ rfl
 have x4:=HB1.out.box.cell 4 _ rfl
 have d0:=HX.out.cell 0 _ rfl
 have d1:=HX.out.cell 1 _ rfl
 have d2:=HX.out.cell 2 _ rfl
 have hw : IntKind.i64.wrap (b.ts.length : Int) = (b.ts.length : Int):=IntWalk.i64_in _ (by omega)
 go_enter Tryz.func222,Tryz.ntmps222
 go_upto_region 1 with fail
 rw [<- hV]
 clear hV
 have HHAS:=qH hh
 clear hh
 go_region
 go_upto_region 3 with fail
 clear x4 x5 d0 d1 d2
 have hmx : Tryz.prog.follows .mixedOrders = true:=by kernel_rfl
 have HDR : Hid (∀ u,Below V.drew.drew.heap.size V.drew.drew u -> Dr u base B M (.slice va b.ts.length vc) b):=qH (fun u hu => (HB1.out.below (Below.refl _ _).drew.drew).below hu)
 have HDX : Hid (∀ u,Below V.drew.drew.heap.size V.drew.drew u -> BoxC u w.heap.size [.string q7,.int .i64 q8,.string q9]):=qH (fun u hu => (HX.out.below (Below.refl _ _).drew.drew).below hu)
 have HBU : Hid (∀ u,Below V.drew.drew.heap.size V.drew.drew u -> Below base w u):=qH (fun u hu => HBB.out.drew.drew.trans (hu.mono HBV.out))
 refine TillZ.region (t:=12) hmx (fun u => Below V.drew.drew.heap.size V.drew.drew u) ?_
 have hS0 : Below V.drew.drew.heap.size V.drew.drew V.drew.drew:=Below.refl _ _
 refine TillZ.take4 (i:=0) (v:=.pointer (some ⟨B,0,none⟩)) rfl rfl rfl (by kernel_rfl) hS0 (fun u hu => by go_simp) ?_
 simp only [pS,List.set,zT,zZ]
 refine TillZ.take4 (i:=1) (v:=.pointer (some ⟨B,0,none⟩)) rfl rfl rfl (by kernel_rfl) hS0 (fun u hu => by go_simp) ?_
 simp only [pS,List.set,zT,zZ,zU]
 refine TillZ.take4 (i:=2) (v:=.pointer (some ⟨B,5,none⟩)) rfl rfl rfl (by kernel_rfl) hS0 (fun u hu => by go_simp) ?_
 simp only [pS,List.set,zT,zZ,zU]
 refine TillZ.take4 (i:=3) (v:=.map (some M)) rfl rfl rfl (by kernel_rfl) hS0 (fun u hu => by have z:=(HDR.out u hu).box.cell 5 _ rfl;go_simp) ?_
 simp only [pS,List.set,zT,zZ,zU]
 refine TillZ.take4 (i:=4) (v:=.pointer (some ⟨w.heap.size,0,none⟩)) rfl rfl rfl (by kernel_rfl) hS0 (fun u hu => by go_simp) ?_
 simp only [pS,List.set,zT,zZ,zU]
 refine TillZ.take4 (i:=5) (v:=.string q7) rfl rfl rfl (by kernel_rfl) hS0 (fun u hu => by have z:=(HDX.out u hu).cell 0 _ rfl;go_simp) ?_
 simp only [pS,List.set,zT,zZ,zU]
 refine TillZ.take4 (i:=6) (v:=.tuple #[.agg #[.string (lookI b.is q7).nm,.int .i64 (lookI b.is q7).tm,.string (lookI b.is q7).bd],.bool false]) rfl rfl rfl (by kernel_rfl) hS0 (fun u hu => by have z:=look_any (HDR.out u hu).rise (HDR.out u hu).map hq;rw [HHAS.out] at z;go_simp) ?_
 simp only [pS,List.set,zT,zZ,zU]
 refine TillZ.take4 (i:=7) (v:=.tuple #[.agg #[.string (lookI b.is q7).nm,.int .i64 (lookI b.is q7).tm,.string (lookI b.is q7).bd],.bool false]) rfl rfl rfl (by kernel_rfl) hS0 (fun u hu => by go_simp) ?_
 simp only [pS,List.set,zT,zZ,zU]
 refine TillZ.take4 (i:=8) (v:=.agg #[.string (lookI b.is q7).nm,.int .i64 (lookI b.is q7).tm,.string (lookI b.is q7).bd]) rfl rfl rfl (by kernel_rfl) hS0 (fun u hu => by go_simp) ?_
 simp only [pS,List.set,zT,zZ,zU]
 refine TillZ.take4 (i:=9) (v:=.bool false) rfl rfl rfl (by kernel_rfl) hS0 (fun u hu => by go_simp) ?_
 simp only [pS,List.set,zT,zZ,zU]
 refine TillZ.one (i:=10) (by kernel_rfl) ?_
 refine TillZ.opz (i:=10) (v:=.pointer (some ⟨V.heap.size,0,none⟩)) (w':=V.drew.drew.alloc (.cells #[.string ⟨#[]⟩,.int .i64 0,.string ⟨#[]⟩] 62)) rfl rfl rfl (by go_simp) (hS0.alloc (Nat.le_refl _) _) ?_
 simp only [pS,List.set,zT,zZ,zU]
 refine TillZ.one (i:=11) (by kernel_rfl) ?_
 refine TillZ.opz_skip (i:=11) (w':=V.drew.drew.alloc (.cells #[.string (lookI b.is q7).nm,.int .i64 (lookI b.is q7).tm,.string (lookI b.is q7).bd] 62)) rfl rfl rfl (by go_simp) (hS0.alloc (Nat.le_refl _) _) ?_
 simp only [pN,zT,zZ,zU]
 have S3:=hS0.alloc (Nat.le_refl _) (.cells #[.string (lookI b.is q7).nm,.int .i64 (lookI b.is q7).tm,.string (lookI b.is q7).bd] 62)
 generalize V.drew.drew.alloc (.cells #[.string (lookI b.is q7).nm,.int .i64 (lookI b.is q7).tm,.string (lookI b.is q7).bd] 62) = W3 at *
 refine TillZ.hand (v:=.bool false) (by kernel_rfl) rfl rfl (by go_simp) ?_
 simp only [pS,List.set,zT,zZ,zU]
 refine TillZ.any_done (by kernel_rfl) ?_ _
 have HB2:=qH (HDR.out _ S3)
 have HX2:=qH (HDX.out _ S3)
 have HBB2:=qH (HBU.out _ S3)
 have x5:=HB2.out.box.cell 5 _ rfl
 have x4:=HB2.out.box.cell 4 _ rfl
 have d0:=HX2.out.cell 0 _ rfl
 have d1:=HX2.out.cell 1 _ rfl
 have d2:=HX2.out.cell 2 _ rfl
 clear S3 hS0
 have hlen:=fun ty => World.ownsMap.len HB2.out.map Tryz.underlying207 ty
 rw [size_mapI] at hlen
 have h8' : ¬ (8 : Int) <= (b.is.length : Int):=by omega
 go_wp2_with fail
 have HBV3:=qH (Nat.le_trans HBS.out HBB2.out.size)
 clear x4 x5 d0 d1 d2
 refine TillZ.region (t:=7) hmx (fun u => Below W3.heap.size W3 u) ?_
 have hS0 : Below W3.heap.size W3 W3.drew:=(Below.refl _ _).drew
 have HD3 : Hid (∀ u,Below W3.heap.size W3 u -> Dr u base B M (.slice va b.ts.length vc) b):=qH (fun u hu => HB2.out.below hu)
 have HX3 : Hid (∀ u,Below W3.heap.size W3 u -> BoxC u w.heap.size [.string q7,.int .i64 q8,.string q9]):=qH (fun u hu => HX2.out.below hu)
 refine TillZ.take4 (i:=0) (v:=.pointer (some ⟨B,0,none⟩)) rfl rfl rfl (by kernel_rfl) hS0 (fun u hu => by go_simp) ?_
 simp only [pS,List.set,zT,zZ]
 refine TillZ.take4 (i:=1) (v:=.pointer (some ⟨B,0,none⟩)) rfl rfl rfl (by kernel_rfl) hS0 (fun u hu => by go_simp) ?_
 simp only [pS,List.set,zT,zZ,zU]
 refine TillZ.take4 (i:=2) (v:=.pointer (some ⟨B,5,none⟩)) rfl rfl rfl (by kernel_rfl) hS0 (fun u hu => by go_simp) ?_
 simp only [pS,List.set,zT,zZ,zU]
 refine TillZ.take4 (i:=3) (v:=.map (some M)) rfl rfl rfl (by kernel_rfl) hS0 (fun u hu => by have z:=(HD3.out u hu).box.cell 5 _ rfl;go_simp) ?_
 simp only [pS,List.set,zT,zZ,zU]
 refine TillZ.take4 (i:=4) (v:=.pointer (some ⟨w.heap.size,0,none⟩)) rfl rfl rfl (by kernel_rfl) hS0 (fun u hu => by go_simp) ?_
 simp only [pS,List.set,zT,zZ,zU]
 refine TillZ.take4 (i:=5) (v:=.string q7) rfl rfl rfl (by kernel_rfl) hS0 (fun u hu => by have z:=(HX3.out u hu).cell 0 _ rfl;go_simp) ?_
 simp only [pS,List.set,zT,zZ,zU]
 refine TillZ.take4 (i:=6) (v:=.agg #[.string q7,.int .i64 q8,.string q9]) rfl rfl rfl (by kernel_rfl) hS0 (fun u hu => by have z0:=(HX3.out u hu).cell 0 _ rfl;have z1:=(HX3.out u hu).cell 1 _ rfl;have z2:=(HX3.out u hu).cell 2 _ rfl;go_simp) ?_
 simp only [pS,List.set,zT,zZ,zU]
 obtain ⟨w4,hrun,hown,hgr⟩:=World.ownsMap.update (HD3.out _ hS0).map keyS Tryz.underlying207 (by unfold maxLen;omega) (imKey_of hq) (show imR (.agg #[.string q7,.int .i64 q8,.string q9]) = some (imDat ⟨q7,q8,q9⟩,[]) from rfl)
 have HO:=qH hown
 have HT:=qH hgr
 have HDD:=qH (HD3.out _ hS0)
 have HBD:=qH (HBB2.out.drew)
 clear hown hgr
 refine TillZ.hand_skip (w':=w4) (by kernel_rfl) rfl rfl (by go_simp) ?_
 simp only [pN,zT,zZ,zU]
 refine TillZ.any_done (by kernel_rfl) ?_ _
 go_wp2_with fail
 go_ret
 exact ⟨rfl,HDD.out.mapped HT.out (by rw [mapI_put (x:=⟨q7,q8,q9⟩) HB2.out.rise];exact HO.out) (gen_rise (.inr ⟨_,rfl,rfl⟩) HB2.out.rise),HBD.out.grown HT.out HBV3.out (fun q hq => by have:=HB2.out.hM;simp at hq;omega)⟩
theorem far_of {w : World} {base B M n nn : Nat} {v : Value} {ts : List Tm} {x : Int} {D : DataW Unit} (hr : w.ownsRow base 97 tmE.k v n (tmE.flat ts)) (h0 : 0 < n) (hb : w.cell? ⟨B,1,none⟩ = some (.int .i64 x)) (hm : w.ownsMap Tryz.prog 9 imR M nn D) : ∀ q,v.ownBlock = some q -> q ≠ B /\ q ≠ M:=by
 intro q hq
 rcases hr.2 with ⟨rfl,h⟩ | ⟨g,cap,cur,rfl,_,hg,_⟩
 · omega
 · have hgq : g = q:=by simpa [Value.ownBlock] using hq
   subst hgq
   obtain ⟨g',o',hge,_,_,t1⟩:=TmR.at (TmR.own hr) h0
   simp only [Option.some.injEq,Addr.mk.injEq,and_true] at hge
   obtain ⟨rfl,rfl⟩:=hge
   refine ⟨fun e => ?_,fun e => ?_⟩
   · subst e
     simp only [Nat.zero_mul,Nat.zero_add] at t1
     rw [hb] at t1
     cases t1
   · subst e
     obtain ⟨es,clock,h1,_⟩:=hm
     rw [h1] at hg
     cases hg
theorem termDo_none (q5 : Int) (q6 : ByteArray) {w : World} {base B M : Nat} {v : Value} {b : Bk} (h : Dr w base B M v b) (hbs : base <= w.heap.size) (ht : b.ts.length <= 5) (hn : (b.ts.length : Int) + 1 < q5) :
 Calls Tryz.prog 217 #[.agg #[.int .i64 q5,.string q6],.pointer (some ⟨B,0,none⟩)] w fun e w' => e = .returned (.int .i64 6) /\ Below base w w':=by
 have HX : Hid (BoxC (w.alloc (.cells #[.int .i64 q5,.string q6] 219)) w.heap.size [.int .i64 q5,.string q6]):=qH (BoxC.made _ _ _)
 have HLT : Hid (∀ q,v.ownBlock = some q -> q < w.heap.size):=qH (fun q hq => (h.row.lt q hq).2)
 have HB1 : Hid (Dr (w.alloc (.cells #[.int .i64 q5,.string q6] 219)) base B M v b):=qH (h.below ((Below.refl _ _).alloc (Nat.le_refl _) _))
 have HBB : Hid (Below base w (w.alloc (.cells #[.int .i64 q5,.string q6] 219))):=qH ((Below.refl _ _).alloc hbs _)
 have HBS:=qH hbs
 clear h
 obtain ⟨va,vc,rfl⟩:=own_shape HB1.out.row
 obtain ⟨V,hV⟩ : ∃ V,V = w.alloc (.cells #[.int .i64 q5,.string q6] 219):=⟨_,rfl⟩
 rw [<- hV] at HX HB1 HBB
 have HBV:=qH (show base <= V.heap.size from Nat.le_trans HBS.out HBB.out.size)
 have x4:=HB1.out.box.cell 4 _ rfl
 have f4:=HB1.out.box.free 4
 have d0:=HX.out.cell 0 _ rfl
 have d1:=HX.out.cell 1 _ rfl
 have hw : IntKind.i64.wrap (b.ts.length : Int) = (b.ts.length : Int):=IntWalk.i64_in _ (by omega)
 have hw1 : IntKind.i64.wrap ((b.ts.length : Int) + 1) = (b.ts.length : Int) + 1:=IntWalk.i64_in _ (by omega)
 go_enter Tryz.func217,Tryz.ntmps217
 go_upto_region 1 with fail
 rw [<- hV]
 clear hV
 go_wp2_with fail
 go_ret
 exact ⟨rfl,HBB.out⟩
theorem termDo_next (q5 : Int) (q6 : ByteArray) {w : World} {base B M : Nat} {v : Value} {b : Bk} (h : Dr w base B M v b) (hbs : base <= w.heap.size) (ht : b.ts.length <= 5) (hn : q5 = (b.ts.length : Int) + 1) :
 Calls Tryz.prog 217 #[.agg #[.int .i64 q5,.string q6],.pointer (some ⟨B,0,none⟩)] w fun e w' => e = .returned (.int .i64 0) /\ ∃ v',Dr w' base B M v' ⟨b.c0,b.c1,b.c2,b.c3,b.ts ++ [⟨q5,q6⟩],b.is⟩ /\ Below base w w':=by
 have HX : Hid (BoxC (w.alloc (.cells #[.int .i64 q5,.string q6] 219)) w.heap.size [.int .i64 q5,.string q6]):=qH (BoxC.made _ _ _)
 have HLT : Hid (∀ q,v.ownBlock = some q -> q < w.heap.size):=qH (fun q hq => (h.row.lt q hq).2)
 have HB1 : Hid (Dr (w.alloc (.cells #[.int .i64 q5,.string q6] 219)) base B M v b):=qH (h.below ((Below.refl _ _).alloc (Nat.le_refl _) _))
 have HBB : Hid (Below base w (w.alloc (.cells #[.int .i64 q5,.string q6] 219))):=qH ((Below.refl _ _).alloc hbs _)
 have HBS:=qH hbs
 clear h
 have HN:=qH hn
 clear hn
 obtain ⟨va,vc,rfl⟩:=own_shape HB1.out.row
 obtain ⟨V,hV⟩ : ∃ V,V = w.alloc (.cells #[.int .i64 q5,.string q6] 219):=⟨_,rfl⟩
 rw [<- hV] at HX HB1 HBB
 have HBV:=qH (show base <= V.heap.size from Nat.le_trans HBS.out HBB.out.size)
 have x4:=HB1.out.box.cell 4 _ rfl
 have f4:=HB1.out.box.free 4
 have d0:=HX.out.cell 0 _ rfl
 have d1:=HX.out.cell 1 _ rfl
 have hw : IntKind.i64.wrap (b.ts.length : Int) = (b.ts.length : Int):=IntWalk.i64_in _ (by omega)
 have hw1 : IntKind.i64.wrap ((b.ts.length : Int) + 1) = (b.ts.length : Int) + 1:=IntWalk.i64_in _ (by omega)
 go_enter Tryz.func217,Tryz.ntmps217
 go_upto_region 1 with fail
 rw [<- hV]
 clear hV
 have hmx : Tryz.prog.follows .mixedOrders = true:=by kernel_rfl
 have h1 : ¬ (b.ts.length : Int) + 1 < q5:=by have:=HN.out;omega
 have h2 : (q5 == (b.ts.length : Int) + 1) = true:=by rw [HN.out];simp
 go_wp2_with fail
 obtain ⟨i1,hi1,hz1,hs1,hy1⟩:=info_parts infoTerm
 clear x4 f4 d0 d1
 refine TillZ.region (t:=10) hmx (fun u => BoxC u B [.int .i64 b.c0,.int .i64 b.c1,.int .i64 b.c2,.int .i64 b.c3,.slice va b.ts.length vc,.map (some M)] /\ BoxC u w.heap.size [.int .i64 q5,.string q6]) ?_
 have hS0:=And.intro HB1.out.box.drew HX.out.drew
 refine TillZ.take4 (i:=0) (v:=.pointer (some ⟨B,0,none⟩)) rfl rfl rfl (by kernel_rfl) hS0 (fun u hu => by go_simp) ?_
 simp only [pS,List.set,zT,zZ]
 refine TillZ.take4 (i:=1) (v:=.pointer (some ⟨B,0,none⟩)) rfl rfl rfl (by kernel_rfl) hS0 (fun u hu => by go_simp) ?_
 simp only [pS,List.set,zT,zZ,zU]
 refine TillZ.take4 (i:=2) (v:=.pointer (some ⟨B,0,none⟩)) rfl rfl rfl (by kernel_rfl) hS0 (fun u hu => by go_simp) ?_
 simp only [pS,List.set,zT,zZ,zU]
 refine TillZ.take4 (i:=3) (v:=.pointer (some ⟨B,4,none⟩)) rfl rfl rfl (by kernel_rfl) hS0 (fun u hu => by go_simp) ?_
 simp only [pS,List.set,zT,zZ,zU]
 refine TillZ.take4 (i:=4) (v:=.slice va b.ts.length vc) rfl rfl rfl (by kernel_rfl) hS0 (fun u hu => by have z:=hu.1.cell 4 _ rfl;go_simp) ?_
 simp only [pS,List.set,zT,zZ,zU]
 refine TillZ.take4 (i:=5) (v:=.agg #[.int .i64 q5,.string q6]) rfl rfl rfl (by kernel_rfl) hS0 (fun u hu => by have z0:=hu.2.cell 0 _ rfl;have z1:=hu.2.cell 1 _ rfl;go_simp) ?_
 simp only [pS,List.set,zT,zZ,zU]
 refine TillZ.one (i:=6) (by kernel_rfl) ?_
 refine TillZ.opz (i:=6) (v:=.slice (some ⟨V.heap.size,0,none⟩) 1 1) (w':=V.drew.alloc (.cells #[.int .i64 q5,.string q6] 97)) rfl rfl rfl (by go_simp) ⟨hS0.1.alloc _,hS0.2.alloc _⟩ ?_
 simp only [pS,List.set,zT,zZ,zU]
 have hS1:=And.intro (hS0.1.alloc (.cells #[.int .i64 q5,.string q6] 97)) (hS0.2.alloc (.cells #[.int .i64 q5,.string q6] 97))
 have hO:=World.ownsRow.alloc (World.ownsRow.drew HB1.out.row) (.cells #[.int .i64 q5,.string q6] 97)
 have hL : SR tmE tmD (V.drew.alloc (.cells #[.int .i64 q5,.string q6] 97)) (some ⟨V.heap.size,0,none⟩) 1 1 [⟨q5,q6⟩]:=SR.own (by decide) (World.ownsRow_lit V.drew #[.int .i64 q5,.string q6] 1 (Nat.le_refl _) (by decide) rfl)
 have HB9:=qH ((HBB.out.drew).alloc HBV.out (.cells #[.int .i64 q5,.string q6] 97))
 have HB9S:=qH (Nat.le_trans HBS.out HB9.out.size)
 have hM9:=World.ownsMap.alloc (World.ownsMap.drew HB1.out.map) (.cells #[.int .i64 q5,.string q6] 97)
 refine TillZ.one (i:=7) (by kernel_rfl) ?_
 refine append_opz tmE tmD (i:=7) (.tmp 24) (.tmp 26) 40 rfl rfl rfl rfl 97 i1 _ 24 Tryz.underlying40 hi1 hz1 hs1 hy1 rfl (by decide) (by decide) base _ b.ts.length b.ts rfl hO _ 1 1 [⟨q5,q6⟩] rfl hL HB9S.out (by omega) (by omega) (fun v2 u2 O2 G2 => ?_)
 simp only [pS,List.set,zT,zZ,zU]
 have hb2:=hS1.1.grown G2 (fun e => (HB1.out.far B e.symm).1 rfl)
 have hx2:=hS1.2.grown G2 (fun e => Nat.lt_irrefl _ (HLT.out _ e.symm))
 have hm2:=hM9.kept G2 (fun e => (HB1.out.far M e.symm).2 rfl)
 have HB10 : Hid (Below base w u2):=qH (HB9.out.grown G2 HB9S.out (fun q hq => (hO.lt q hq).1))
 have hfar:=far_of O2 (by omega) (hb2.cell 1 _ rfl) hm2
 obtain ⟨a2,c2,rfl⟩:=own_shape O2
 refine ⟨⟨hb2,hx2⟩,?_⟩
 have x4:=hb2.cell 4 _ rfl
 have f4:=hb2.free 4
 have HDN : Hid (Dr (u2.setCell ⟨B,4,none⟩ (.slice a2 (b.ts.length + 1) c2)) base B M (.slice a2 (b.ts.length + 1) c2) ⟨b.c0,b.c1,b.c2,b.c3,b.ts ++ [⟨q5,q6⟩],b.is⟩):=qH
  ⟨hb2.set (j:=4) (by simp) _,by have h3:=own_other O2 (b:=B) (fun q hq => (hfar q hq).1) ⟨B,4,none⟩ (.slice a2 (b.ts.length + 1) c2) rfl;simpa using h3,hfar,HB1.out.hB,HB1.out.hM,HB1.out.ne,hm2.setCell (a:=⟨B,4,none⟩) HB1.out.ne _,HB1.out.rise⟩
 refine TillZ.value (i:=8) (v:=.pointer (some ⟨B,0,none⟩)) (by kernel_rfl) rfl rfl rfl (by go_simp) ⟨hb2,hx2⟩ ?_
 simp only [pS,List.set,zT,zZ,zU]
 refine TillZ.value (i:=9) (v:=.pointer (some ⟨B,4,none⟩)) (by kernel_rfl) rfl rfl rfl (by go_simp) ⟨hb2,hx2⟩ ?_
 simp only [pS,List.set,zT,zZ,zU]
 clear hb2 hx2 hm2 hfar O2 G2 hO hL hM9 hS1 hS0
 refine TillZ.hand_skip (w':=u2.setCell ⟨B,4,none⟩ (.slice a2 (b.ts.length + 1) c2)) (by kernel_rfl) rfl rfl (by go_simp) ?_
 simp only [pN,zT,zZ,zU]
 refine TillZ.any_done (by kernel_rfl) ?_ _
 clear x4 f4
 go_wp2_with fail
 go_ret
 exact ⟨rfl,_,HDN.out,HB10.out.setCell (p:=⟨B,4,none⟩) HB1.out.hB _⟩
theorem termDo_old (q5 : Int) (q6 : ByteArray) {w : World} {base B M : Nat} {v : Value} {b : Bk} (h : Dr w base B M v b) (hbs : base <= w.heap.size) (ht : b.ts.length <= 5) (i : Nat) (hi : (i : Int) = q5 - 1) (hil : i < b.ts.length) :
 Calls Tryz.prog 217 #[.agg #[.int .i64 q5,.string q6],.pointer (some ⟨B,0,none⟩)] w fun e w' => e = .returned (.int .i64 0) /\ Dr w' base B M v ⟨b.c0,b.c1,b.c2,b.c3,b.ts.set i ⟨q5,q6⟩,b.is⟩ /\ Below base w w':=by
 have HX : Hid (BoxC (w.alloc (.cells #[.int .i64 q5,.string q6] 219)) w.heap.size [.int .i64 q5,.string q6]):=qH (BoxC.made _ _ _)
 have HLT : Hid (∀ q,v.ownBlock = some q -> q < w.heap.size):=qH (fun q hq => (h.row.lt q hq).2)
 have HB1 : Hid (Dr (w.alloc (.cells #[.int .i64 q5,.string q6] 219)) base B M v b):=qH (h.below ((Below.refl _ _).alloc (Nat.le_refl _) _))
 have HBB : Hid (Below base w (w.alloc (.cells #[.int .i64 q5,.string q6] 219))):=qH ((Below.refl _ _).alloc hbs _)
 have HBS:=qH hbs
 clear h
 obtain ⟨va,vc,rfl⟩:=own_shape HB1.out.row
 obtain ⟨V,hV⟩ : ∃ V,V = w.alloc (.cells #[.int .i64 q5,.string q6] 219):=⟨_,rfl⟩
 rw [<- hV] at HX HB1 HBB
 have HBV:=qH (show base <= V.heap.size from Nat.le_trans HBS.out HBB.out.size)
 have x4:=HB1.out.box.cell 4 _ rfl
 have f4:=HB1.out.box.free 4
 have d0:=HX.out.cell 0 _ rfl
 have d1:=HX.out.cell 1 _ rfl
 have hw : IntKind.i64.wrap (b.ts.length : Int) = (b.ts.length : Int):=IntWalk.i64_in _ (by omega)
 have hw1 : IntKind.i64.wrap ((b.ts.length : Int) + 1) = (b.ts.length : Int) + 1:=IntWalk.i64_in _ (by omega)
 go_enter Tryz.func217,Tryz.ntmps217
 go_upto_region 1 with fail
 rw [<- hV]
 clear hV
 have hmx : Tryz.prog.follows .mixedOrders = true:=by kernel_rfl
 have h2 : (q5 == (b.ts.length : Int) + 1) = false:=by rw [beq_eq_false_iff_ne];omega
 have h3 : ¬ (b.ts.length : Int) + 1 < q5:=by omega
 have hin : 0 <= (i : Int) /\ (i : Int) < (b.ts.length : Int):=by omega
 have hsub : IntKind.i64.wrap (q5 - 1) = (i : Int):=by rw [IntWalk.i64_in _ (by omega)];omega
 obtain ⟨g,rfl⟩ : ∃ g,va = some ⟨g,0,none⟩:=by
  rcases HB1.out.row.2 with ⟨_,h0⟩ | ⟨g,cap,cur,hv,_⟩
  · omega
  · simp only [Value.slice.injEq] at hv;exact ⟨g,hv.1⟩
 clear hi
 go_wp2_with fail
 clear x4 f4 d0 d1
 have hrow:=World.ownsRow.drew HB1.out.row
 obtain ⟨g',o',hge,_,t0,t1⟩:=TmR.at (TmR.own HB1.out.row) hil
 simp only [Option.some.injEq,Addr.mk.injEq,and_true] at hge
 obtain ⟨rfl,rfl⟩:=hge
 rw [Nat.zero_add] at t0 t1
 have k0:=HB1.out.row.frozenAt (i * 2)
 have k1:=HB1.out.row.frozenAt (i * 2 + 1)
 have hst:=TmR.stored hrow hil q5 q6
 have HST:=qH hst.1
 have HGG:=qH hst.2
 have HFG:=qH (HB1.out.far g rfl)
 have HBG:=qH ((HB1.out.row.lt g rfl).1)
 clear hst hrow
 refine TillZ.region (t:=9) hmx (fun u => BoxC u B [.int .i64 b.c0,.int .i64 b.c1,.int .i64 b.c2,.int .i64 b.c3,.slice (some ⟨g,0,none⟩) b.ts.length vc,.map (some M)] /\ BoxC u w.heap.size [.int .i64 q5,.string q6]) ?_
 have hS0:=And.intro HB1.out.box.drew HX.out.drew
 refine TillZ.take4 (i:=0) (v:=.pointer (some ⟨B,0,none⟩)) rfl rfl rfl (by kernel_rfl) hS0 (fun u hu => by go_simp) ?_
 simp only [pS,List.set,zT,zZ]
 refine TillZ.take4 (i:=1) (v:=.pointer (some ⟨B,0,none⟩)) rfl rfl rfl (by kernel_rfl) hS0 (fun u hu => by go_simp) ?_
 simp only [pS,List.set,zT,zZ,zU]
 refine TillZ.take4 (i:=2) (v:=.pointer (some ⟨B,4,none⟩)) rfl rfl rfl (by kernel_rfl) hS0 (fun u hu => by go_simp) ?_
 simp only [pS,List.set,zT,zZ,zU]
 refine TillZ.take4 (i:=3) (v:=.slice (some ⟨g,0,none⟩) b.ts.length vc) rfl rfl rfl (by kernel_rfl) hS0 (fun u hu => by have z:=hu.1.cell 4 _ rfl;go_simp) ?_
 simp only [pS,List.set,zT,zZ,zU]
 refine TillZ.take4 (i:=4) (v:=.pointer (some ⟨w.heap.size,0,none⟩)) rfl rfl rfl (by kernel_rfl) hS0 (fun u hu => by go_simp) ?_
 simp only [pS,List.set,zT,zZ,zU]
 refine TillZ.take4 (i:=5) (v:=.int .i64 q5) rfl rfl rfl (by kernel_rfl) hS0 (fun u hu => by have z0:=hu.2.cell 0 _ rfl;go_simp) ?_
 simp only [pS,List.set,zT,zZ,zU]
 refine TillZ.take4 (i:=6) (v:=.int .i64 (i : Int)) rfl rfl rfl (by kernel_rfl) hS0 (fun u hu => by go_simp) ?_
 simp only [pS,List.set,zT,zZ,zU]
 refine TillZ.take4 (i:=7) (v:=.agg #[.int .i64 q5,.string q6]) rfl rfl rfl (by kernel_rfl) hS0 (fun u hu => by have z0:=hu.2.cell 0 _ rfl;have z1:=hu.2.cell 1 _ rfl;go_simp) ?_
 simp only [pS,List.set,zT,zZ,zU]
 refine TillZ.take4 (i:=8) (v:=.pointer (some ⟨g,i * 2,none⟩)) rfl rfl rfl (by kernel_rfl) hS0 (fun u hu => by go_simp) ?_
 simp only [pS,List.set,zT,zZ,zU]
 refine TillZ.hand_skip (w':=(V.drew.setCell ⟨g,i * 2,none⟩ (.int .i64 q5)).setCell ⟨g,i * 2 + 1,none⟩ (.string q6)) (by kernel_rfl) rfl rfl (by go_simp) ?_
 simp only [pN,zT,zZ,zU]
 refine TillZ.any_done (by kernel_rfl) ?_ _
 clear hS0 t0 t1 k0 k1
 go_wp2_with fail
 go_ret
 exact ⟨rfl,⟨(HB1.out.box.drew.other ⟨g,i * 2,none⟩ _ HFG.out.1).other ⟨g,i * 2 + 1,none⟩ _ HFG.out.1,by have h3:=HST.out;simpa using h3,HB1.out.far,HB1.out.hB,HB1.out.hM,HB1.out.ne,((World.ownsMap.drew HB1.out.map).setCell (a:=⟨g,i * 2,none⟩) (fun e => HFG.out.2 e.symm) _).setCell (a:=⟨g,i * 2 + 1,none⟩) (fun e => HFG.out.2 e.symm) _,HB1.out.rise⟩,(HBB.out.drew.setCell (p:=⟨g,i * 2,none⟩) HBG.out _).setCell (p:=⟨g,i * 2 + 1,none⟩) HBG.out _⟩
end Go.Proofs.YthkbcjnbmciolaaGreatDoor
