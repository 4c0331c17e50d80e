/- Used by the law. -/
import Derived.Test.YthkbcjnbmciolaaGreatDoorQV38
set_option maxRecDepth 100000
set_option maxHeartbeats 16000000
namespace Go.Proofs.YthkbcjnbmciolaaGreatDoor
open Go.RowKit Go.PlainAid G
set_option linter.unusedVariables false
theorem implLock_any (key : ByteArray) (n : Int) (t : ByteArray) (w : World) (hk : key.size <= maxLen) (ht : t.size <= maxLen) :
 Calls Tryz.prog 89 #[.string key,.int .i64 n,.string t] w fun e w' => e = .returned (.string (lockS key n t)) /\ Below w.heap.size w w':=by
 unfold maxLen at ht
 cases hs : secR key
 · have HF:=qH (lockS_no (key:=key) (n:=n) (t:=t) (fun h => by rw [secR_yes h.1.1 h.1.2] at hs;cases hs)).symm
   go_enter Tryz.func89,Tryz.ntmps89
   go_wp2_with fail
   refine (secretOk_any key _ hk).mono ?_
   rintro e w1 ⟨rfl,rfl⟩
   rw [hs]
   go_wp2_with fail
   go_ret
   exact ⟨ret_string HF.out,Below.refl _ _⟩
 · obtain ⟨h1,h2⟩:=secR_iff.1 hs
   by_cases hn : 0 <= n /\ n <= 1000000
   · have hd : decide (0 <= n /\ n <= 1000000) = true:=decide_eq_true hn
     by_cases h40 : t.size <= 40
     · have HF:=qH (lockS_yes (key:=key) (n:=n) (t:=t) ⟨⟨h1,h2⟩,hn,h40⟩).symm
       obtain ⟨m,rfl⟩:=Int.eq_ofNat_of_zero_le hn.1
       go_enter Tryz.func89,Tryz.ntmps89
       go_wp2_with fail
       refine (secretOk_any key _ hk).mono ?_
       rintro e w1 ⟨rfl,rfl⟩
       rw [hs]
       go_wp2_with fail
       refine (isTime_any _ _).mono ?_
       rintro e w1 ⟨rfl,rfl⟩
       rw [hd]
       go_wp2_with fail
       refine (turned_any key m t _ h1 h2 (by omega) (by omega)).mono ?_
       rintro e w2 ⟨rfl,hb⟩
       go_wp2_with fail
       go_ret
       exact ⟨ret_string HF.out,hb⟩
     · have HF:=qH (lockS_no (key:=key) (n:=n) (t:=t) (fun h => h40 h.2.2)).symm
       go_enter Tryz.func89,Tryz.ntmps89
       go_wp2_with fail
       refine (secretOk_any key _ hk).mono ?_
       rintro e w1 ⟨rfl,rfl⟩
       rw [hs]
       go_wp2_with fail
       refine (isTime_any _ _).mono ?_
       rintro e w1 ⟨rfl,rfl⟩
       rw [hd]
       go_wp2_with fail
       go_ret
       exact ⟨ret_string HF.out,Below.refl _ _⟩
   · have hd : decide (0 <= n /\ n <= 1000000) = false:=decide_eq_false hn
     have HF:=qH (lockS_no (key:=key) (n:=n) (t:=t) (fun h => hn h.2.1)).symm
     go_enter Tryz.func89,Tryz.ntmps89
     go_wp2_with fail
     refine (secretOk_any key _ hk).mono ?_
     rintro e w1 ⟨rfl,rfl⟩
     rw [hs]
     go_wp2_with fail
     refine (isTime_any _ _).mono ?_
     rintro e w1 ⟨rfl,rfl⟩
     rw [hd]
     go_wp2_with fail
     go_ret
     exact ⟨ret_string HF.out,Below.refl _ _⟩
end Go.Proofs.YthkbcjnbmciolaaGreatDoor
namespace Go.Proofs.YthkbcjnbmciolaaGreatDoor
open Go.RowKit Go.PlainAid G MGF IRow
set_option linter.unusedVariables false
def keyD (ma : ByteArray) (ts : List Tm) (tm : Int) : ByteArray:=lkS ma tm.toNat (ts.getD (tm.toNat - 1) tmD).lk
def txtD (ma : ByteArray) (ts : List Tm) (tm : Int) (bd : ByteArray) : ByteArray:=lkS (keyD ma ts tm) 0 bd
def prD (ma : ByteArray) (ts : List Tm) (x : Im) : Pw:=⟨x.nm,txtD ma ts x.tm x.bd⟩
def dataOk (z : Bool) (ma : ByteArray) (c3 : Int) : Bool:=z && (checkI ma == c3)
def dataL (z : Bool) (ma : ByteArray) (c3 : Int) (ts : List Tm) (is : List Im) : List Pw:=if dataOk z ma c3 = true then is.map (prD ma ts) else []
theorem eqTm_iff {x y : Tm} (h : eqTm x y = true) : x = y:=by
 unfold eqTm at h
 obtain ⟨h1,h2⟩:=of_decide_eq_true h
 cases x;cases y;simp_all
theorem eqIm_iff {x y : Im} (h : eqIm x y = true) : x = y:=by
 unfold eqIm at h
 obtain ⟨h1,h2,h3⟩:=of_decide_eq_true h
 cases x;cases y;simp_all
theorem ext_getD {α : Type} {d : α} {l k : List α} (hl : l.length = k.length) (h : ∀ i,i < l.length -> l.getD i d = k.getD i d) : l = k:=by
 refine List.ext_getElem hl (fun i h1 h2 => ?_)
 have:=h i h1
 simpa [List.getD,List.getElem?_eq_getElem h1,List.getElem?_eq_getElem h2] using this
theorem eqTmL_iff {l k : List Tm} (h : eqTmL l k = true) : l = k:=by
 unfold eqTmL at h
 rw [Bool.and_eq_true,decide_eq_true_eq] at h
 exact ext_getD h.1 (fun i hi => eqTm_iff (allTo'_iff.1 h.2 i hi))
theorem eqImL_iff {l k : List Im} (h : eqImL l k = true) : l = k:=by
 unfold eqImL at h
 rw [Bool.and_eq_true,decide_eq_true_eq] at h
 exact ext_getD h.1 (fun i hi => eqIm_iff (allTo'_iff.1 h.2 i hi))
theorem vault_book {ds dt : ByteArray} {c0 c1 c2 c3 : Int} {op : Bool} {ma : ByteArray} {no : Int} {on : Bool} {nd mn : Int} {ts : List Tm} {is : List Im} {gs rs : List Ev} (h : vaultB ds dt c0 c1 c2 c3 op ma no on nd mn ts is gs rs = true) : bookB ⟨c0,c1,c2,c3,ts,is⟩ = true:=by
 unfold vaultB onDiskB sameB eqConf2 at h
 simp only [Bool.and_eq_true,decide_eq_true_eq] at h
 obtain ⟨⟨_,_,_,⟨h0,h1,h2,h3⟩,h4,h5⟩,_⟩:=h
 have e4:=eqTmL_iff h4
 have e5:=eqImL_iff h5
 have hr:=bkOf_right ds
 rcases hb : bkOf ds with ⟨b0,b1,b2,b3,bt,bi⟩
 rw [hb] at h0 h1 h2 h3 e4 e5 hr
 simp only at h0 h1 h2 h3 e4 e5
 subst h0 h1 h2 h3 e4 e5
 exact hr
theorem check_sec {ma : ByteArray} {c : Int} (h0 : 0 <= c) (h : checkI ma = c) : secR ma = true:=by
 cases hs : secR ma with
 | true => rfl
 | false =>
  unfold checkI at h
  rw [hs] at h
  simp at h
  omega
theorem book_c3 {b : Bk} (h : bookB b = true) : 0 <= b.c3:=by
 rcases bookB_of h with h | h
 · rw [(zeroK_iff.1 h).1.2.2.2];exact Int.le_refl 0
 · exact (confB_iff.1 h.conf).2.2.2.1
structure KeyOk (ma : ByteArray) (ts : List Tm) (tm : Int) (bd : ByteArray) : Prop where
 hma : 1 <= ma.size /\ ma.size <= 16
 htm : 1 <= tm /\ tm <= (ts.length : Int) /\ tm <= 5
 hlk : 1 <= (ts.getD (tm.toNat - 1) tmD).lk.size /\ (ts.getD (tm.toNat - 1) tmD).lk.size <= 16
 hno : (ts.getD (tm.toNat - 1) tmD).no = tm
 hbd : 1 <= bd.size /\ bd.size <= 20
theorem key_ok {ma : ByteArray} {b : Bk} (hb : bookB b = true) (hm : secR ma = true) {x : Im} (hx : x ∈ b.is) : KeyOk ma b.ts x.tm x.bd:=by
 rcases bookB_of hb with h | h
 · rw [(zeroK_iff.1 h).2.2] at hx;cases hx
 · obtain ⟨h1,h2⟩:=h.item x hx
   unfold itemB at h1
   simp only [Bool.and_eq_true,decide_eq_true_eq] at h1
   obtain ⟨⟨_,h3,h4⟩,h5⟩:=h1
   have hl : x.tm.toNat - 1 < b.ts.length:=by omega
   obtain ⟨ht,hn⟩:=h.term _ hl
   unfold termB at ht
   rw [Bool.and_eq_true] at ht
   exact ⟨secR_iff.1 hm,⟨h3,h2,h4⟩,secR_iff.1 ht.2,by rw [hn];omega,h5⟩
theorem KeyOk.key {ma : ByteArray} {ts : List Tm} {tm : Int} {bd : ByteArray} (h : KeyOk ma ts tm bd) : 1 <= (keyD ma ts tm).size /\ (keyD ma ts tm).size <= 16:=by
 unfold keyD;rw [lkS_size];exact h.hlk
theorem KeyOk.lock1 {ma : ByteArray} {ts : List Tm} {tm : Int} {bd : ByteArray} (h : KeyOk ma ts tm bd) : lockS ma tm (ts.getD (tm.toNat - 1) tmD).lk = keyD ma ts tm :=
 lockS_yes ⟨h.hma,⟨by have:=h.htm;omega,by have:=h.htm;omega⟩,by have:=h.hlk;omega⟩
theorem KeyOk.lock2 {ma : ByteArray} {ts : List Tm} {tm : Int} {bd : ByteArray} (h : KeyOk ma ts tm bd) : lockS (keyD ma ts tm) 0 bd = txtD ma ts tm bd :=
 lockS_yes ⟨h.key,⟨by omega,by omega⟩,by have:=h.hbd;omega⟩
theorem dataL_no {z : Bool} {ma : ByteArray} {c3 : Int} {ts : List Tm} {is : List Im} (h : dataOk z ma c3 = false) : dataL z ma c3 ts is = []:=by unfold dataL;rw [if_neg (by rw [h];decide)]
theorem keyOf_any (ma : ByteArray) (no : Int) (lk : ByteArray) (w : World) (hm : ma.size <= maxLen) (hl : lk.size <= maxLen) :
 Calls Tryz.prog 90 #[.string ma,.agg #[.int .i64 no,.string lk]] w fun e w' => e = .returned (.string (lockS ma no lk)) /\ Below w.heap.size w w':=by
 obtain ⟨W,hW⟩ : ∃ W,W = w.alloc (.cells #[.int .i64 no,.string lk] 97):=⟨_,rfl⟩
 have HB0:=qH (show Below w.heap.size w W by rw [hW];exact (Below.refl _ _).alloc (Nat.le_refl _) _)
 have HX:=qH (show BoxC W w.heap.size [.int .i64 no,.string lk] by rw [hW];exact BoxC.made _ _ _)
 have HM:=qH hm
 have HL:=qH hl
 clear hm hl
 go_enter Tryz.func90,Tryz.ntmps90
 go_upto_region 1 with fail
 rw [<- hW]
 clear hW
 have x0:=HX.out.cell 0 _ rfl
 have x1:=HX.out.cell 1 _ rfl
 go_wp2_with fail
 refine (implLock_any ma no lk W HM.out HL.out).mono ?_
 rintro e w1 ⟨rfl,hb⟩
 have HB1:=qH (HB0.out.trans (hb.mono HB0.out.size))
 clear hb x0 x1
 go_wp2_with fail
 go_ret
 exact ⟨rfl,HB1.out⟩
theorem textIn_any (c0 c1 c2 c3 : Int) (a1 : Option Addr) (n1 a3 : Nat) (a2 : Option Addr) (n2 a4 : Nat) (ts : List Tm) (ma nm : ByteArray) (tm : Int) (bd : ByteArray) (w : World) (hr : TmR w a1 n1 a3 ts) (hq : KeyOk ma ts tm bd) :
 Calls Tryz.prog 62 #[.agg #[.int .i64 c0,.int .i64 c1,.int .i64 c2,.int .i64 c3,.slice a1 n1 a3,.slice a2 n2 a4],.string ma,.agg #[.string nm,.int .i64 tm,.string bd]] w fun e w' => e = .returned (.string (txtD ma ts tm bd)) /\ Below w.heap.size w w':=by
 obtain ⟨k,hk⟩ : ∃ k : Nat,tm = (k : Int) + 1:=⟨tm.toNat - 1,by have:=hq.htm;omega⟩
 have hkn : k < n1:=by have:=hq.htm;have:=hr.len;omega
 have htk : tm.toNat - 1 = k:=by omega
 obtain ⟨g,oo,hga,hgl,hc0,hc1⟩:=hr.at hkn
 have hqn:=hq.hno
 rw [htk] at hqn
 have hlk:=hq.hlk
 rw [htk] at hlk
 rw [hqn] at hc0
 have hl1:=hq.lock1
 have hl2:=hq.lock2
 rw [htk] at hl1
 have hkk : keyD ma ts tm = lkS ma (k + 1) (ts.getD k tmD).lk:=by unfold keyD;rw [htk,show tm.toNat = k + 1 by omega]
 have hkz:=hq.key
 have hma:=hq.hma
 have hbd:=hq.hbd
 have htm5:=hq.htm.2.2
 generalize txtD ma ts tm bd = tx at *
 generalize keyD ma ts tm = key at *
 generalize (ts.getD k tmD).lk = lk at *
 clear hq htk hqn
 subst hk
 have hw : IntKind.i64.wrap (k : Int) = (k : Int):=IntWalk.i64_in _ (by omega)
 have hin : 0 <= (k : Int) /\ (k : Int) < (n1 : Int):=by omega
 have HKC : Hid (∀ u,Calls Tryz.prog 90 #[.string ma,.agg #[.int .i64 ((k : Int) + 1),.string lk]] u fun e u' => e = .returned (.string key) /\ Below u.heap.size u u'):=qH (fun u => by rw [<- hl1];exact keyOf_any ma _ lk u (by unfold maxLen;omega) (by unfold maxLen;omega))
 have HTC : Hid (∀ u,Calls Tryz.prog 89 #[.string key,.int .i64 0,.string bd] u fun e u' => e = .returned (.string tx) /\ Below u.heap.size u u'):=qH (fun u => by rw [<- hl2];exact implLock_any key 0 bd u (by unfold maxLen;omega) (by unfold maxLen;omega))
 clear hl1 hl2 hkk hkz hma hbd hlk
 obtain ⟨W,hW⟩ : ∃ W,W = (w.alloc (.cells #[.int .i64 c0,.int .i64 c1,.int .i64 c2,.int .i64 c3,.slice a1 n1 a3,.slice a2 n2 a4] 43)).alloc (.cells #[.string nm,.int .i64 ((k : Int) + 1),.string bd] 62):=⟨_,rfl⟩
 have hB0 : Below w.heap.size w W:=by rw [hW];exact ((Below.refl _ _).alloc (Nat.le_refl _) _).alloc (by simp) _
 have HA:=qH (show BoxC W w.heap.size [.int .i64 c0,.int .i64 c1,.int .i64 c2,.int .i64 c3,.slice a1 n1 a3,.slice a2 n2 a4] by rw [hW];exact (BoxC.made _ _ _).alloc _)
 have HI : Hid (BoxC W (w.heap.size + 1) [.string nm,.int .i64 ((k : Int) + 1),.string bd]):=qH (by rw [hW];have:=BoxC.made (w.alloc (.cells #[.int .i64 c0,.int .i64 c1,.int .i64 c2,.int .i64 c3,.slice a1 n1 a3,.slice a2 n2 a4] 43)) #[.string nm,.int .i64 ((k : Int) + 1),.string bd] 62;rw [World.size_alloc] at this;exact this)
 have HT0 : Hid (∀ u,Below W.heap.size W u -> u.cell? ⟨g,oo + k * 2,none⟩ = some (.int .i64 ((k : Int) + 1))):=qH (fun u hu => ((hB0.trans (hu.mono hB0.size)).cell (p:=⟨g,oo + k * 2,none⟩) hgl).trans hc0)
 have HT1 : Hid (∀ u,Below W.heap.size W u -> u.cell? ⟨g,oo + k * 2 + 1,none⟩ = some (.string lk)):=qH (fun u hu => ((hB0.trans (hu.mono hB0.size)).cell (p:=⟨g,oo + k * 2 + 1,none⟩) hgl).trans hc1)
 have HB0:=qH hB0
 clear hB0 hc0 hc1 hr hgl
 subst hga
 have hmx : Tryz.prog.follows .mixedOrders = true:=by kernel_rfl
 go_enter Tryz.func62,Tryz.ntmps62
 go_upto_region 1 with fail
 rw [<- hW]
 clear hW
 have HS0 : Hid (Below W.heap.size W W.drew):=qH (Below.refl _ _).drew
 refine HeldZ.region hmx (fun u => Below W.heap.size W u) (by kernel_rfl) HS0.out ?_
 with_reducible refine HeldZ.value (v:=.string ma) rfl (fun u hu => by go_simp) ?_
 simp only [pS,List.set]
 with_reducible refine HeldZ.value (v:=.pointer (some ⟨w.heap.size,4,none⟩)) rfl (fun u hu => by go_simp) ?_
 simp only [pS,List.set]
 with_reducible refine HeldZ.value (v:=.slice (some ⟨g,oo,none⟩) n1 a3) rfl (fun u hu => by have z:=(HA.out.below hu).cell 4 _ rfl;go_simp) ?_
 simp only [pS,List.set]
 with_reducible refine HeldZ.value (v:=.pointer (some ⟨w.heap.size + 1,1,none⟩)) rfl (fun u hu => by go_simp) ?_
 simp only [pS,List.set]
 with_reducible refine HeldZ.value (v:=.int .i64 ((k : Int) + 1)) rfl (fun u hu => by have z:=(HI.out.below hu).cell 1 _ rfl;go_simp) ?_
 simp only [pS,List.set]
 with_reducible refine HeldZ.value (v:=.int .i64 (k : Int)) rfl (fun u hu => by go_simp) ?_
 simp only [pS,List.set]
 with_reducible refine HeldZ.value (v:=.pointer (some ⟨g,oo + k * 2,none⟩)) rfl (fun u hu => by go_simp) ?_
 simp only [pS,List.set]
 with_reducible refine HeldZ.value (v:=.agg #[.int .i64 ((k : Int) + 1),.string lk]) rfl (fun u hu => by have z0:=HT0.out u hu;have z1:=HT1.out u hu;go_simp) ?_
 simp only [pS,List.set]
 with_reducible refine HeldZ.call (v:=.string key) (f:=90) (args:=#[.string ma,.agg #[.int .i64 ((k : Int) + 1),.string lk]]) rfl (fun u hu => by go_simp) (fun u hu => Calls.mono (HKC.out u) (by rintro e u2 ⟨rfl,hb⟩;exact ⟨rfl,hu.trans (hb.mono hu.size)⟩)) ?_
 simp only [pS,List.set]
 with_reducible refine HeldZ.value (v:=.pointer (some ⟨w.heap.size + 1,2,none⟩)) rfl (fun u hu => by go_simp) ?_
 simp only [pS,List.set]
 with_reducible refine HeldZ.value (v:=.string bd) rfl (fun u hu => by have z:=(HI.out.below hu).cell 2 _ rfl;go_simp) ?_
 simp only [pS,List.set]
 with_reducible refine HeldZ.call (v:=.string tx) (f:=89) (args:=#[.string key,.int .i64 0,.string bd]) rfl (fun u hu => by go_simp) (fun u hu => Calls.mono (HTC.out u) (by rintro e u2 ⟨rfl,hb⟩;exact ⟨rfl,hu.trans (hb.mono hu.size)⟩)) ?_
 simp only [pS,List.set]
 with_reducible refine HeldZ.value (v:=.string tx) rfl (fun u hu => by go_simp) ?_
 simp only [pS,List.set]
 refine HeldZ.nil ?_
 intro u hu
 have HU:=qH (HB0.out.trans (hu.mono HB0.out.size))
 clear hu
 go_wp2_with fail
 go_ret
 exact ⟨rfl,HU.out⟩
theorem l09Key_any (ds dt : ByteArray) (c0 c1 c2 c3 : Int) (op : Bool) (ma : ByteArray) (no : Int) (on : Bool) (nd mn : Int) (a1 : Option Addr) (n1 a3 : Nat) (a2 : Option Addr) (n2 a4 : Nat) (ts : List Tm) (g1 : Option Addr) (gn g2 : Nat) (r1 : Option Addr) (rn r2 : Nat) (tm : Int) (bd : ByteArray) (w : World) (hr : TmR w a1 n1 a3 ts) (hq : KeyOk ma ts tm bd) :
 Calls Tryz.prog 20 #[.agg #[.string ds,.string dt,.int .i64 c0,.int .i64 c1,.int .i64 c2,.int .i64 c3,.slice a1 n1 a3,.slice a2 n2 a4,.bool op,.string ma,.slice g1 gn g2,.int .i64 no,.bool on,.int .i64 nd,.int .i64 mn,.slice r1 rn r2],.int .i64 tm] w fun e w' => e = .returned (.string (keyD ma ts tm)) /\ Below w.heap.size w w':=by
 obtain ⟨k,hk⟩ : ∃ k : Nat,tm = (k : Int) + 1:=⟨tm.toNat - 1,by have:=hq.htm;omega⟩
 have hkn : k < n1:=by have:=hq.htm;have:=hr.len;omega
 have htk : tm.toNat - 1 = k:=by omega
 obtain ⟨g,oo,hga,hgl,hc0,hc1⟩:=hr.at hkn
 have hqn:=hq.hno
 rw [htk] at hqn
 have hlk:=hq.hlk
 rw [htk] at hlk
 rw [hqn] at hc0
 have hl1:=hq.lock1
 have hl2:=hq.lock2
 rw [htk] at hl1
 have hkk : keyD ma ts tm = lkS ma (k + 1) (ts.getD k tmD).lk:=by unfold keyD;rw [htk,show tm.toNat = k + 1 by omega]
 have hkz:=hq.key
 have hma:=hq.hma
 have hbd:=hq.hbd
 have htm5:=hq.htm.2.2
 generalize txtD ma ts tm bd = tx at *
 generalize keyD ma ts tm = key at *
 generalize (ts.getD k tmD).lk = lk at *
 clear hq htk hqn
 subst hk
 have hw : IntKind.i64.wrap (k : Int) = (k : Int):=IntWalk.i64_in _ (by omega)
 have hin : 0 <= (k : Int) /\ (k : Int) < (n1 : Int):=by omega
 have HKC : Hid (∀ u,Calls Tryz.prog 19 #[.string ma,.int .i64 ((k : Int) + 1),.string lk] u fun e u' => e = .returned (.string key) /\ Below u.heap.size u u'):=qH (fun u => by
  have:=l06Lock_any ma (k + 1) lk u hma.1 hma.2 (by omega) (by omega)
  rw [show ((k + 1 : Nat) : Int) = (k : Int) + 1 by omega,<- hkk] at this
  exact this)
 clear hl1 hl2 hkk hkz hma hbd hlk
 obtain ⟨W,hW⟩ : ∃ W,W = w.alloc (.cells #[.string ds,.string dt,.int .i64 c0,.int .i64 c1,.int .i64 c2,.int .i64 c3,.slice a1 n1 a3,.slice a2 n2 a4,.bool op,.string ma,.slice g1 gn g2,.int .i64 no,.bool on,.int .i64 nd,.int .i64 mn,.slice r1 rn r2] 48):=⟨_,rfl⟩
 have hB0 : Below w.heap.size w W:=by rw [hW];exact (Below.refl _ _).alloc (Nat.le_refl _) _
 have HA:=qH (show BoxC W w.heap.size [.string ds,.string dt,.int .i64 c0,.int .i64 c1,.int .i64 c2,.int .i64 c3,.slice a1 n1 a3,.slice a2 n2 a4,.bool op,.string ma,.slice g1 gn g2,.int .i64 no,.bool on,.int .i64 nd,.int .i64 mn,.slice r1 rn r2] by rw [hW];exact BoxC.made _ _ _)
 have HT1 : Hid (∀ u,Below W.heap.size W u -> u.cell? ⟨g,oo + k * 2 + 1,none⟩ = some (.string lk)):=qH (fun u hu => ((hB0.trans (hu.mono hB0.size)).cell (p:=⟨g,oo + k * 2 + 1,none⟩) hgl).trans hc1)
 have HB0:=qH hB0
 clear hB0 hc0 hc1 hr hgl
 subst hga
 have hmx : Tryz.prog.follows .mixedOrders = true:=by kernel_rfl
 go_enter Tryz.func20,Tryz.ntmps20
 go_upto_region 1 with fail
 rw [<- hW]
 clear hW
 have HS0 : Hid (Below W.heap.size W W.drew):=qH (Below.refl _ _).drew
 refine HeldZ.region hmx (fun u => Below W.heap.size W u) (by kernel_rfl) HS0.out ?_
 with_reducible refine HeldZ.value (v:=.pointer (some ⟨w.heap.size,9,none⟩)) rfl (fun u hu => by go_simp) ?_
 simp only [pS,List.set]
 with_reducible refine HeldZ.value (v:=.string ma) rfl (fun u hu => by have z:=(HA.out.below hu).cell 9 _ rfl;go_simp) ?_
 simp only [pS,List.set]
 with_reducible refine HeldZ.value (v:=.int .i64 ((k : Int) + 1)) rfl (fun u hu => by go_simp) ?_
 simp only [pS,List.set]
 with_reducible refine HeldZ.value (v:=.pointer (some ⟨w.heap.size,2,none⟩)) rfl (fun u hu => by go_simp) ?_
 simp only [pS,List.set]
 with_reducible refine HeldZ.value (v:=.pointer (some ⟨w.heap.size,6,none⟩)) rfl (fun u hu => by go_simp) ?_
 simp only [pS,List.set]
 with_reducible refine HeldZ.value (v:=.slice (some ⟨g,oo,none⟩) n1 a3) rfl (fun u hu => by have z:=(HA.out.below hu).cell 6 _ rfl;go_simp) ?_
 simp only [pS,List.set]
 with_reducible refine HeldZ.value (v:=.int .i64 ((k : Int) + 1)) rfl (fun u hu => by go_simp) ?_
 simp only [pS,List.set]
 with_reducible refine HeldZ.value (v:=.int .i64 (k : Int)) rfl (fun u hu => by go_simp) ?_
 simp only [pS,List.set]
 with_reducible refine HeldZ.value (v:=.pointer (some ⟨g,oo + k * 2,none⟩)) rfl (fun u hu => by go_simp) ?_
 simp only [pS,List.set]
 with_reducible refine HeldZ.value (v:=.pointer (some ⟨g,oo + k * 2 + 1,none⟩)) rfl (fun u hu => by go_simp) ?_
 simp only [pS,List.set]
 with_reducible refine HeldZ.value (v:=.string lk) rfl (fun u hu => by have z1:=HT1.out u hu;go_simp) ?_
 simp only [pS,List.set]
 with_reducible refine HeldZ.call (v:=.string key) (f:=19) (args:=#[.string ma,.int .i64 ((k : Int) + 1),.string lk]) rfl (fun u hu => by go_simp) (fun u hu => Calls.mono (HKC.out u) (by rintro e u2 ⟨rfl,hb⟩;exact ⟨rfl,hu.trans (hb.mono hu.size)⟩)) ?_
 simp only [pS,List.set]
 with_reducible refine HeldZ.value (v:=.string key) rfl (fun u hu => by go_simp) ?_
 simp only [pS,List.set]
 refine HeldZ.nil ?_
 intro u hu
 have HU:=qH (HB0.out.trans (hu.mono HB0.out.size))
 clear hu
 go_wp2_with fail
 go_ret
 exact ⟨rfl,HU.out⟩
end Go.Proofs.YthkbcjnbmciolaaGreatDoor
