/- Used by the law. -/
import Derived.Test.YtgafndgnmadcfaaGreatDoorQU37
import Derived.Test.YtgafndgnmadcfaaGreatDoorQU39
set_option maxRecDepth 100000
set_option maxHeartbeats 16000000
namespace Go.Proofs.YtgafndgnmadcfaaGreatDoor
open Go.RowKit Go.PlainAid G MGF IRow
set_option linter.unusedVariables false
def keyD (ma : ByteArray) (ts : List Tm) (tm : Int) : ByteArray:=lkS ma tm.toNat (ts.getD (tm.toNat - 1) tmD).lk
def txtD (ma : ByteArray) (ts : List Tm) (tm : Int) (bd : ByteArray) : ByteArray:=lkS (keyD ma ts tm) 0 bd
def prD (ma : ByteArray) (ts : List Tm) (x : Im) : Pw:=⟨x.nm,txtD ma ts x.tm x.bd⟩
def dataOk (z : Bool) (ma : ByteArray) (c3 : Int) : Bool:=z && (checkI ma == c3)
def dataL (z : Bool) (ma : ByteArray) (c3 : Int) (ts : List Tm) (is : List Im) : List Pw:=if dataOk z ma c3 = true then is.map (prD ma ts) else []
theorem eqTm_iff {x y : Tm} (h : eqTm x y = true) : x = y:=by
 unfold eqTm at h
 obtain ⟨h1,h2⟩:=of_decide_eq_true h
 cases x;cases y;simp_all
theorem eqIm_iff {x y : Im} (h : eqIm x y = true) : x = y:=by
 unfold eqIm at h
 obtain ⟨h1,h2,h3⟩:=of_decide_eq_true h
 cases x;cases y;simp_all
theorem ext_getD {α : Type} {d : α} {l k : List α} (hl : l.length = k.length) (h : ∀ i,i < l.length -> l.getD i d = k.getD i d) : l = k:=by
 refine List.ext_getElem hl (fun i h1 h2 => ?_)
 have:=h i h1
 simpa [List.getD,List.getElem?_eq_getElem h1,List.getElem?_eq_getElem h2] using this
theorem eqTmL_iff {l k : List Tm} (h : eqTmL l k = true) : l = k:=by
 unfold eqTmL at h
 rw [Bool.and_eq_true,decide_eq_true_eq] at h
 exact ext_getD h.1 (fun i hi => eqTm_iff (allTo'_iff.1 h.2 i hi))
theorem eqImL_iff {l k : List Im} (h : eqImL l k = true) : l = k:=by
 unfold eqImL at h
 rw [Bool.and_eq_true,decide_eq_true_eq] at h
 exact ext_getD h.1 (fun i hi => eqIm_iff (allTo'_iff.1 h.2 i hi))
theorem vault_book {ds dt : ByteArray} {c0 c1 c2 c3 : Int} {op : Bool} {ma : ByteArray} {no : Int} {on : Bool} {nd mn : Int} {ts : List Tm} {is : List Im} {gs rs : List Ev} (h : vaultB ds dt c0 c1 c2 c3 op ma no on nd mn ts is gs rs = true) : bookB ⟨c0,c1,c2,c3,ts,is⟩ = true:=by
 unfold vaultB onDiskB sameB eqConf2 at h
 simp only [Bool.and_eq_true,decide_eq_true_eq] at h
 obtain ⟨⟨_,_,_,⟨h0,h1,h2,h3⟩,h4,h5⟩,_⟩:=h
 have e4:=eqTmL_iff h4
 have e5:=eqImL_iff h5
 have hr:=bkOf_right ds
 rcases hb : bkOf ds with ⟨b0,b1,b2,b3,bt,bi⟩
 rw [hb] at h0 h1 h2 h3 e4 e5 hr
 simp only at h0 h1 h2 h3 e4 e5
 subst h0 h1 h2 h3 e4 e5
 exact hr
theorem check_sec {ma : ByteArray} {c : Int} (h0 : 0 <= c) (h : checkI ma = c) : secR ma = true:=by
 cases hs : secR ma with
 | true => rfl
 | false =>
  unfold checkI at h
  rw [hs] at h
  simp at h
  omega
theorem book_c3 {b : Bk} (h : bookB b = true) : 0 <= b.c3:=by
 rcases bookB_of h with h | h
 · rw [(zeroK_iff.1 h).1.2.2.2];exact Int.le_refl 0
 · exact (confB_iff.1 h.conf).2.2.2.1
structure KeyOk (ma : ByteArray) (ts : List Tm) (tm : Int) (bd : ByteArray) : Prop where
 hma : 1 <= ma.size /\ ma.size <= 16
 htm : 1 <= tm /\ tm <= (ts.length : Int) /\ tm <= 5
 hlk : 1 <= (ts.getD (tm.toNat - 1) tmD).lk.size /\ (ts.getD (tm.toNat - 1) tmD).lk.size <= 16
 hno : (ts.getD (tm.toNat - 1) tmD).no = tm
 hbd : 1 <= bd.size /\ bd.size <= 20
theorem key_ok {ma : ByteArray} {b : Bk} (hb : bookB b = true) (hm : secR ma = true) {x : Im} (hx : x ∈ b.is) : KeyOk ma b.ts x.tm x.bd:=by
 rcases bookB_of hb with h | h
 · rw [(zeroK_iff.1 h).2.2] at hx;cases hx
 · obtain ⟨h1,h2⟩:=h.item x hx
   unfold itemB at h1
   simp only [Bool.and_eq_true,decide_eq_true_eq] at h1
   obtain ⟨⟨_,h3,h4⟩,h5⟩:=h1
   have hl : x.tm.toNat - 1 < b.ts.length:=by omega
   obtain ⟨ht,hn⟩:=h.term _ hl
   unfold termB at ht
   rw [Bool.and_eq_true] at ht
   exact ⟨secR_iff.1 hm,⟨h3,h2,h4⟩,secR_iff.1 ht.2,by rw [hn];omega,h5⟩
theorem KeyOk.key {ma : ByteArray} {ts : List Tm} {tm : Int} {bd : ByteArray} (h : KeyOk ma ts tm bd) : 1 <= (keyD ma ts tm).size /\ (keyD ma ts tm).size <= 16:=by
 unfold keyD;rw [lkS_size];exact h.hlk
theorem KeyOk.lock1 {ma : ByteArray} {ts : List Tm} {tm : Int} {bd : ByteArray} (h : KeyOk ma ts tm bd) : lockS ma tm (ts.getD (tm.toNat - 1) tmD).lk = keyD ma ts tm :=
 lockS_yes ⟨h.hma,⟨by have:=h.htm;omega,by have:=h.htm;omega⟩,by have:=h.hlk;omega⟩
theorem KeyOk.lock2 {ma : ByteArray} {ts : List Tm} {tm : Int} {bd : ByteArray} (h : KeyOk ma ts tm bd) : lockS (keyD ma ts tm) 0 bd = txtD ma ts tm bd :=
 lockS_yes ⟨h.key,⟨by omega,by omega⟩,by have:=h.hbd;omega⟩
theorem dataL_no {z : Bool} {ma : ByteArray} {c3 : Int} {ts : List Tm} {is : List Im} (h : dataOk z ma c3 = false) : dataL z ma c3 ts is = []:=by unfold dataL;rw [if_neg (by rw [h];decide)]
theorem keyOf_any (ma : ByteArray) (no : Int) (lk : ByteArray) (w : World) (hm : ma.size <= maxLen) (hl : lk.size <= maxLen) :
 Calls Tryz.prog 149 #[.string ma,.agg #[.int .i64 no,.string lk]] w fun e w' => e = .returned (.string (lockS ma no lk)) /\ Below w.heap.size w w':=by
 obtain ⟨W,hW⟩ : ∃ W,W = w.alloc (.cells #[.int .i64 no,.string lk] 136):=⟨_,rfl⟩
 have HB0:=qH (show Below w.heap.size w W by rw [hW];exact (Below.refl _ _).alloc (Nat.le_refl _) _)
 have HX:=qH (show BoxC W w.heap.size [.int .i64 no,.string lk] by rw [hW];exact BoxC.made _ _ _)
 have HM:=qH hm
 have HL:=qH hl
 clear hm hl
 go_enter Tryz.func149,Tryz.ntmps149
 go_upto_region 1 with fail
 rw [<- hW]
 clear hW
 have x0:=HX.out.cell 0 _ rfl
 have x1:=HX.out.cell 1 _ rfl
 go_wp2_with fail
 refine (implLock_any ma no lk W HM.out HL.out).mono ?_
 rintro e w1 ⟨rfl,hb⟩
 have HB1:=qH (HB0.out.trans (hb.mono HB0.out.size))
 clear hb x0 x1
 go_wp2_with fail
 go_ret
 exact ⟨rfl,HB1.out⟩
theorem textIn_any (c0 c1 c2 c3 : Int) (a1 : Option Addr) (n1 a3 : Nat) (a2 : Option Addr) (n2 a4 : Nat) (ts : List Tm) (ma nm : ByteArray) (tm : Int) (bd : ByteArray) (w : World) (hr : TmR w a1 n1 a3 ts) (hq : KeyOk ma ts tm bd) :
 Calls Tryz.prog 102 #[.agg #[.int .i64 c0,.int .i64 c1,.int .i64 c2,.int .i64 c3,.slice a1 n1 a3,.slice a2 n2 a4],.string ma,.agg #[.string nm,.int .i64 tm,.string bd]] w fun e w' => e = .returned (.string (txtD ma ts tm bd)) /\ Below w.heap.size w w':=by
 obtain ⟨k,hk⟩ : ∃ k : Nat,tm = (k : Int) + 1:=⟨tm.toNat - 1,by have:=hq.htm;omega⟩
 have hkn : k < n1:=by have:=hq.htm;have:=hr.len;omega
 have htk : tm.toNat - 1 = k:=by omega
 obtain ⟨g,oo,hga,hgl,hc0,hc1⟩:=hr.at hkn
 have hqn:=hq.hno
 rw [htk] at hqn
 have hlk:=hq.hlk
 rw [htk] at hlk
 rw [hqn] at hc0
 have hl1:=hq.lock1
 have hl2:=hq.lock2
 rw [htk] at hl1
 have hkk : keyD ma ts tm = lkS ma (k + 1) (ts.getD k tmD).lk:=by unfold keyD;rw [htk,show tm.toNat = k + 1 by omega]
 have hkz:=hq.key
 have hma:=hq.hma
 have hbd:=hq.hbd
 have htm5:=hq.htm.2.2
 generalize txtD ma ts tm bd = tx at *
 generalize keyD ma ts tm = key at *
 generalize (ts.getD k tmD).lk = lk at *
 clear hq htk hqn
 subst hk
 have hw : IntKind.i64.wrap (k : Int) = (k : Int):=IntWalk.i64_in _ (by omega)
 have hin : 0 <= (k : Int) /\ (k : Int) < (n1 : Int):=by omega
 have HKC : Hid (∀ u,Calls Tryz.prog 149 #[.string ma,.agg #[.int .i64 ((k : Int) + 1),.string lk]] u fun e u' => e = .returned (.string key) /\ Below u.heap.size u u'):=qH (fun u => by rw [<- hl1];exact keyOf_any ma _ lk u (by unfold maxLen;omega) (by unfold maxLen;omega))
 have HTC : Hid (∀ u,Calls Tryz.prog 148 #[.string key,.int .i64 0,.string bd] u fun e u' => e = .returned (.string tx) /\ Below u.heap.size u u'):=qH (fun u => by rw [<- hl2];exact implLock_any key 0 bd u (by unfold maxLen;omega) (by unfold maxLen;omega))
 clear hl1 hl2 hkk hkz hma hbd hlk
 obtain ⟨W,hW⟩ : ∃ W,W = (w.alloc (.cells #[.int .i64 c0,.int .i64 c1,.int .i64 c2,.int .i64 c3,.slice a1 n1 a3,.slice a2 n2 a4] 42)).alloc (.cells #[.string nm,.int .i64 ((k : Int) + 1),.string bd] 93):=⟨_,rfl⟩
 have hB0 : Below w.heap.size w W:=by rw [hW];exact ((Below.refl _ _).alloc (Nat.le_refl _) _).alloc (by simp) _
 have HA:=qH (show BoxC W w.heap.size [.int .i64 c0,.int .i64 c1,.int .i64 c2,.int .i64 c3,.slice a1 n1 a3,.slice a2 n2 a4] by rw [hW];exact (BoxC.made _ _ _).alloc _)
 have HI : Hid (BoxC W (w.heap.size + 1) [.string nm,.int .i64 ((k : Int) + 1),.string bd]):=qH (by rw [hW];have:=BoxC.made (w.alloc (.cells #[.int .i64 c0,.int .i64 c1,.int .i64 c2,.int .i64 c3,.slice a1 n1 a3,.slice a2 n2 a4] 42)) #[.string nm,.int .i64 ((k : Int) + 1),.string bd] 93;rw [World.size_alloc] at this;exact this)
 have HT0 : Hid (∀ u,Below W.heap.size W u -> u.cell? ⟨g,oo + k * 2,none⟩ = some (.int .i64 ((k : Int) + 1))):=qH (fun u hu => ((hB0.trans (hu.mono hB0.size)).cell (p:=⟨g,oo + k * 2,none⟩) hgl).trans hc0)
 have HT1 : Hid (∀ u,Below W.heap.size W u -> u.cell? ⟨g,oo + k * 2 + 1,none⟩ = some (.string lk)):=qH (fun u hu => ((hB0.trans (hu.mono hB0.size)).cell (p:=⟨g,oo + k * 2 + 1,none⟩) hgl).trans hc1)
 have HB0:=qH hB0
 clear hB0 hc0 hc1 hr hgl
 subst hga
 have hmx : Tryz.prog.follows .mixedOrders = true:=by kernel_rfl
 go_enter Tryz.func102,Tryz.ntmps102
 go_upto_region 1 with fail
 rw [<- hW]
 clear hW
 have HS0 : Hid (Below W.heap.size W W.drew):=qH (Below.refl _ _).drew
 refine HeldZ.region hmx (fun u => Below W.heap.size W u) (by kernel_rfl) HS0.out ?_
 with_reducible refine HeldZ.value (v:=.string ma) rfl (fun u hu => by go_simp) ?_
 simp only [pS,pN,List.set]
 with_reducible refine HeldZ.value (v:=.pointer (some ⟨w.heap.size,4,none⟩)) rfl (fun u hu => by go_simp) ?_
 simp only [pS,pN,List.set]
 with_reducible refine HeldZ.value (v:=.slice (some ⟨g,oo,none⟩) n1 a3) rfl (fun u hu => by have z:=(HA.out.below hu).cell 4 _ rfl;go_simp) ?_
 simp only [pS,pN,List.set]
 with_reducible refine HeldZ.value (v:=.pointer (some ⟨w.heap.size + 1,1,none⟩)) rfl (fun u hu => by go_simp) ?_
 simp only [pS,pN,List.set]
 with_reducible refine HeldZ.value (v:=.int .i64 ((k : Int) + 1)) rfl (fun u hu => by have z:=(HI.out.below hu).cell 1 _ rfl;go_simp) ?_
 simp only [pS,pN,List.set]
 with_reducible refine HeldZ.value (v:=.int .i64 (k : Int)) rfl (fun u hu => by go_simp) ?_
 simp only [pS,pN,List.set]
 with_reducible refine HeldZ.value (v:=.pointer (some ⟨g,oo + k * 2,none⟩)) rfl (fun u hu => by go_simp) ?_
 simp only [pS,pN,List.set]
 with_reducible refine HeldZ.value (v:=.agg #[.int .i64 ((k : Int) + 1),.string lk]) rfl (fun u hu => by have z0:=HT0.out u hu;have z1:=HT1.out u hu;go_simp) ?_
 simp only [pS,pN,List.set]
 with_reducible refine HeldZ.call (v:=.string key) (f:=149) (args:=#[.string ma,.agg #[.int .i64 ((k : Int) + 1),.string lk]]) rfl (fun u hu => by go_simp) (fun u hu => Calls.mono (HKC.out u) (by rintro e u2 ⟨rfl,hb⟩;exact ⟨rfl,hu.trans (hb.mono hu.size)⟩)) ?_
 simp only [pS,pN,List.set]
 with_reducible refine HeldZ.value (v:=.pointer (some ⟨w.heap.size + 1,2,none⟩)) rfl (fun u hu => by go_simp) ?_
 simp only [pS,pN,List.set]
 with_reducible refine HeldZ.value (v:=.string bd) rfl (fun u hu => by have z:=(HI.out.below hu).cell 2 _ rfl;go_simp) ?_
 simp only [pS,pN,List.set]
 with_reducible refine HeldZ.call (v:=.string tx) (f:=148) (args:=#[.string key,.int .i64 0,.string bd]) rfl (fun u hu => by go_simp) (fun u hu => Calls.mono (HTC.out u) (by rintro e u2 ⟨rfl,hb⟩;exact ⟨rfl,hu.trans (hb.mono hu.size)⟩)) ?_
 simp only [pS,pN,List.set]
 with_reducible refine HeldZ.value (v:=.string tx) rfl (fun u hu => by go_simp) ?_
 simp only [pS,pN,List.set]
 refine HeldZ.nil ?_
 intro u hu
 have HU:=qH (HB0.out.trans (hu.mono HB0.out.size))
 clear hu
 go_wp2_with fail
 go_ret
 exact ⟨rfl,HU.out⟩
theorem l09Key_any (ds dt : ByteArray) (c0 c1 c2 c3 : Int) (op : Bool) (ma : ByteArray) (no : Int) (on : Bool) (nd mn : Int) (a1 : Option Addr) (n1 a3 : Nat) (a2 : Option Addr) (n2 a4 : Nat) (ts : List Tm) (g1 : Option Addr) (gn g2 : Nat) (r1 : Option Addr) (rn r2 : Nat) (tm : Int) (bd : ByteArray) (w : World) (hr : TmR w a1 n1 a3 ts) (hq : KeyOk ma ts tm bd) :
 Calls Tryz.prog 54 #[.agg #[.string ds,.string dt,.int .i64 c0,.int .i64 c1,.int .i64 c2,.int .i64 c3,.slice a1 n1 a3,.slice a2 n2 a4,.bool op,.string ma,.slice g1 gn g2,.int .i64 no,.bool on,.int .i64 nd,.int .i64 mn,.slice r1 rn r2],.int .i64 tm] w fun e w' => e = .returned (.string (keyD ma ts tm)) /\ Below w.heap.size w w':=by
 obtain ⟨k,hk⟩ : ∃ k : Nat,tm = (k : Int) + 1:=⟨tm.toNat - 1,by have:=hq.htm;omega⟩
 have hkn : k < n1:=by have:=hq.htm;have:=hr.len;omega
 have htk : tm.toNat - 1 = k:=by omega
 obtain ⟨g,oo,hga,hgl,hc0,hc1⟩:=hr.at hkn
 have hqn:=hq.hno
 rw [htk] at hqn
 have hlk:=hq.hlk
 rw [htk] at hlk
 rw [hqn] at hc0
 have hl1:=hq.lock1
 have hl2:=hq.lock2
 rw [htk] at hl1
 have hkk : keyD ma ts tm = lkS ma (k + 1) (ts.getD k tmD).lk:=by unfold keyD;rw [htk,show tm.toNat = k + 1 by omega]
 have hkz:=hq.key
 have hma:=hq.hma
 have hbd:=hq.hbd
 have htm5:=hq.htm.2.2
 generalize txtD ma ts tm bd = tx at *
 generalize keyD ma ts tm = key at *
 generalize (ts.getD k tmD).lk = lk at *
 clear hq htk hqn
 subst hk
 have hw : IntKind.i64.wrap (k : Int) = (k : Int):=IntWalk.i64_in _ (by omega)
 have hin : 0 <= (k : Int) /\ (k : Int) < (n1 : Int):=by omega
 have HKC : Hid (∀ u,Calls Tryz.prog 53 #[.string ma,.int .i64 ((k : Int) + 1),.string lk] u fun e u' => e = .returned (.string key) /\ Below u.heap.size u u'):=qH (fun u => by
  have:=l06Lock_any ma (k + 1) lk u hma.1 hma.2 (by omega) (by omega)
  rw [show ((k + 1 : Nat) : Int) = (k : Int) + 1 by omega,<- hkk] at this
  exact this)
 clear hl1 hl2 hkk hkz hma hbd hlk
 obtain ⟨W,hW⟩ : ∃ W,W = w.alloc (.cells #[.string ds,.string dt,.int .i64 c0,.int .i64 c1,.int .i64 c2,.int .i64 c3,.slice a1 n1 a3,.slice a2 n2 a4,.bool op,.string ma,.slice g1 gn g2,.int .i64 no,.bool on,.int .i64 nd,.int .i64 mn,.slice r1 rn r2] 47):=⟨_,rfl⟩
 have hB0 : Below w.heap.size w W:=by rw [hW];exact (Below.refl _ _).alloc (Nat.le_refl _) _
 have HA:=qH (show BoxC W w.heap.size [.string ds,.string dt,.int .i64 c0,.int .i64 c1,.int .i64 c2,.int .i64 c3,.slice a1 n1 a3,.slice a2 n2 a4,.bool op,.string ma,.slice g1 gn g2,.int .i64 no,.bool on,.int .i64 nd,.int .i64 mn,.slice r1 rn r2] by rw [hW];exact BoxC.made _ _ _)
 have HT1 : Hid (∀ u,Below W.heap.size W u -> u.cell? ⟨g,oo + k * 2 + 1,none⟩ = some (.string lk)):=qH (fun u hu => ((hB0.trans (hu.mono hB0.size)).cell (p:=⟨g,oo + k * 2 + 1,none⟩) hgl).trans hc1)
 have HB0:=qH hB0
 clear hB0 hc0 hc1 hr hgl
 subst hga
 have hmx : Tryz.prog.follows .mixedOrders = true:=by kernel_rfl
 go_enter Tryz.func54,Tryz.ntmps54
 go_upto_region 1 with fail
 rw [<- hW]
 clear hW
 have HS0 : Hid (Below W.heap.size W W.drew):=qH (Below.refl _ _).drew
 refine HeldZ.region hmx (fun u => Below W.heap.size W u) (by kernel_rfl) HS0.out ?_
 with_reducible refine HeldZ.value (v:=.pointer (some ⟨w.heap.size,9,none⟩)) rfl (fun u hu => by go_simp) ?_
 simp only [pS,pN,List.set]
 with_reducible refine HeldZ.value (v:=.string ma) rfl (fun u hu => by have z:=(HA.out.below hu).cell 9 _ rfl;go_simp) ?_
 simp only [pS,pN,List.set]
 with_reducible refine HeldZ.value (v:=.int .i64 ((k : Int) + 1)) rfl (fun u hu => by go_simp) ?_
 simp only [pS,pN,List.set]
 with_reducible refine HeldZ.value (v:=.pointer (some ⟨w.heap.size,2,none⟩)) rfl (fun u hu => by go_simp) ?_
 simp only [pS,pN,List.set]
 with_reducible refine HeldZ.value (v:=.pointer (some ⟨w.heap.size,6,none⟩)) rfl (fun u hu => by go_simp) ?_
 simp only [pS,pN,List.set]
 with_reducible refine HeldZ.value (v:=.slice (some ⟨g,oo,none⟩) n1 a3) rfl (fun u hu => by have z:=(HA.out.below hu).cell 6 _ rfl;go_simp) ?_
 simp only [pS,pN,List.set]
 with_reducible refine HeldZ.value (v:=.int .i64 ((k : Int) + 1)) rfl (fun u hu => by go_simp) ?_
 simp only [pS,pN,List.set]
 with_reducible refine HeldZ.value (v:=.int .i64 (k : Int)) rfl (fun u hu => by go_simp) ?_
 simp only [pS,pN,List.set]
 with_reducible refine HeldZ.value (v:=.pointer (some ⟨g,oo + k * 2,none⟩)) rfl (fun u hu => by go_simp) ?_
 simp only [pS,pN,List.set]
 with_reducible refine HeldZ.value (v:=.pointer (some ⟨g,oo + k * 2 + 1,none⟩)) rfl (fun u hu => by go_simp) ?_
 simp only [pS,pN,List.set]
 with_reducible refine HeldZ.value (v:=.string lk) rfl (fun u hu => by have z1:=HT1.out u hu;go_simp) ?_
 simp only [pS,pN,List.set]
 with_reducible refine HeldZ.call (v:=.string key) (f:=53) (args:=#[.string ma,.int .i64 ((k : Int) + 1),.string lk]) rfl (fun u hu => by go_simp) (fun u hu => Calls.mono (HKC.out u) (by rintro e u2 ⟨rfl,hb⟩;exact ⟨rfl,hu.trans (hb.mono hu.size)⟩)) ?_
 simp only [pS,pN,List.set]
 with_reducible refine HeldZ.value (v:=.string key) rfl (fun u hu => by go_simp) ?_
 simp only [pS,pN,List.set]
 refine HeldZ.nil ?_
 intro u hu
 have HU:=qH (HB0.out.trans (hu.mono HB0.out.size))
 clear hu
 go_wp2_with fail
 go_ret
 exact ⟨rfl,HU.out⟩
def tabL (ma : ByteArray) (ts : List Tm) (is : List Im) (k : Nat) : List Pw:=(is.take k).map (prD ma ts) ++ List.replicate (8 - k) pwD
theorem tab_len {ma : ByteArray} {ts : List Tm} {is : List Im} {k : Nat} (hk : k <= is.length) (h8 : k <= 8) : (tabL ma ts is k).length = 8:=by unfold tabL;simp;omega
theorem tab_zero (ma : ByteArray) (ts : List Tm) (is : List Im) : tabL ma ts is 0 = List.replicate 8 pwD:=by unfold tabL;simp
theorem tab_set {ma : ByteArray} {ts : List Tm} {is : List Im} {k : Nat} (hk : k < is.length) (h8 : k < 8) : (tabL ma ts is k).set k (prD ma ts (is.getD k imD)) = tabL ma ts is (k + 1):=by
 unfold tabL
 have h1 : ((is.take k).map (prD ma ts)).length = k:=by simp;omega
 have h2 : is.take (k + 1) = is.take k ++ [is.getD k imD]:=by
  rw [show is.getD k imD = is[k] by simp [List.getD,List.getElem?_eq_getElem hk]]
  exact (List.take_append_getElem hk).symm
 rw [List.set_append_right _ _ (by omega),h1,Nat.sub_self,h2,List.map_append,List.append_assoc,show 8 - k = (8 - (k + 1)) + 1 by omega,List.replicate_succ]
 rfl
theorem flat_one (l : List Pw) : (pwE.flat l).all (·.oneCell') = true:=by
 induction l with
 | nil => rfl
 | cons p l ih =>
  simp only [Enc.flat,List.all_append,ih,Bool.and_true]
  rfl
theorem tableOf_any (c0 c1 c2 c3 : Int) (a1 : Option Addr) (n1 a3 : Nat) (a2 : Option Addr) (n2 a4 : Nat) (ts : List Tm) (is : List Im) (ma : ByteArray) (w : World) (h : BkR w a1 n1 a3 a2 n2 a4 ts is) (hn : n2 <= 8) (hq : ∀ j,j < n2 -> KeyOk ma ts (is.getD j imD).tm (is.getD j imD).bd) (hs : ∀ j,j < n2 -> (is.getD j imD).nm.size <= 1000000) :
 Calls Tryz.prog 56 #[.agg #[.int .i64 c0,.int .i64 c1,.int .i64 c2,.int .i64 c3,.slice a1 n1 a3,.slice a2 n2 a4],.string ma] w fun e w' => e = .returned (.agg (pwE.flat (tabL ma ts is n2)).toArray) /\ Below w.heap.size w w':=by
 have HLN:=qH h.i.len
 have HR:=qH h
 have HQ:=qH hq
 have HSZ:=qH hs
 clear h hq hs
 obtain ⟨W,hW⟩ : ∃ W,W = ((w.alloc (.cells #[.int .i64 c0,.int .i64 c1,.int .i64 c2,.int .i64 c3,.slice a1 n1 a3,.slice a2 n2 a4] 42)).alloc (.cells #[.string ⟨#[]⟩,.string ⟨#[]⟩,.string ⟨#[]⟩,.string ⟨#[]⟩,.string ⟨#[]⟩,.string ⟨#[]⟩,.string ⟨#[]⟩,.string ⟨#[]⟩,.string ⟨#[]⟩,.string ⟨#[]⟩,.string ⟨#[]⟩,.string ⟨#[]⟩,.string ⟨#[]⟩,.string ⟨#[]⟩,.string ⟨#[]⟩,.string ⟨#[]⟩] 99)).alloc (.cells #[.string ⟨#[]⟩,.string ⟨#[]⟩,.string ⟨#[]⟩,.string ⟨#[]⟩,.string ⟨#[]⟩,.string ⟨#[]⟩,.string ⟨#[]⟩,.string ⟨#[]⟩,.string ⟨#[]⟩,.string ⟨#[]⟩,.string ⟨#[]⟩,.string ⟨#[]⟩,.string ⟨#[]⟩,.string ⟨#[]⟩,.string ⟨#[]⟩,.string ⟨#[]⟩] 99):=⟨_,rfl⟩
 have HB0 : Hid (Below w.heap.size w W):=qH (by rw [hW];exact (((Below.refl _ _).alloc (Nat.le_refl _) _).alloc (by simp) _).alloc (by simp;omega) _)
 have HA : Hid (BoxC W w.heap.size [.int .i64 c0,.int .i64 c1,.int .i64 c2,.int .i64 c3,.slice a1 n1 a3,.slice a2 n2 a4]):=qH (by rw [hW];exact ((BoxC.made _ _ _).alloc _).alloc _)
 have HT : Hid (BoxC W (w.heap.size + 1) [.string ⟨#[]⟩,.string ⟨#[]⟩,.string ⟨#[]⟩,.string ⟨#[]⟩,.string ⟨#[]⟩,.string ⟨#[]⟩,.string ⟨#[]⟩,.string ⟨#[]⟩,.string ⟨#[]⟩,.string ⟨#[]⟩,.string ⟨#[]⟩,.string ⟨#[]⟩,.string ⟨#[]⟩,.string ⟨#[]⟩,.string ⟨#[]⟩,.string ⟨#[]⟩]):=qH (by rw [hW];have:=(BoxC.made (w.alloc (.cells #[.int .i64 c0,.int .i64 c1,.int .i64 c2,.int .i64 c3,.slice a1 n1 a3,.slice a2 n2 a4] 42)) #[.string ⟨#[]⟩,.string ⟨#[]⟩,.string ⟨#[]⟩,.string ⟨#[]⟩,.string ⟨#[]⟩,.string ⟨#[]⟩,.string ⟨#[]⟩,.string ⟨#[]⟩,.string ⟨#[]⟩,.string ⟨#[]⟩,.string ⟨#[]⟩,.string ⟨#[]⟩,.string ⟨#[]⟩,.string ⟨#[]⟩,.string ⟨#[]⟩,.string ⟨#[]⟩] 99).alloc (.cells #[.string ⟨#[]⟩,.string ⟨#[]⟩,.string ⟨#[]⟩,.string ⟨#[]⟩,.string ⟨#[]⟩,.string ⟨#[]⟩,.string ⟨#[]⟩,.string ⟨#[]⟩,.string ⟨#[]⟩,.string ⟨#[]⟩,.string ⟨#[]⟩,.string ⟨#[]⟩,.string ⟨#[]⟩,.string ⟨#[]⟩,.string ⟨#[]⟩,.string ⟨#[]⟩] 99);rw [World.size_alloc] at this;exact this)
 have HU : Hid (BoxC W (w.heap.size + 2) (pwE.flat (tabL ma ts is 0))):=qH (by rw [tab_zero,hW];have:=BoxC.made ((w.alloc (.cells #[.int .i64 c0,.int .i64 c1,.int .i64 c2,.int .i64 c3,.slice a1 n1 a3,.slice a2 n2 a4] 42)).alloc (.cells #[.string ⟨#[]⟩,.string ⟨#[]⟩,.string ⟨#[]⟩,.string ⟨#[]⟩,.string ⟨#[]⟩,.string ⟨#[]⟩,.string ⟨#[]⟩,.string ⟨#[]⟩,.string ⟨#[]⟩,.string ⟨#[]⟩,.string ⟨#[]⟩,.string ⟨#[]⟩,.string ⟨#[]⟩,.string ⟨#[]⟩,.string ⟨#[]⟩,.string ⟨#[]⟩] 99)) #[.string ⟨#[]⟩,.string ⟨#[]⟩,.string ⟨#[]⟩,.string ⟨#[]⟩,.string ⟨#[]⟩,.string ⟨#[]⟩,.string ⟨#[]⟩,.string ⟨#[]⟩,.string ⟨#[]⟩,.string ⟨#[]⟩,.string ⟨#[]⟩,.string ⟨#[]⟩,.string ⟨#[]⟩,.string ⟨#[]⟩,.string ⟨#[]⟩,.string ⟨#[]⟩] 99;rw [World.size_alloc,World.size_alloc] at this;exact this)
 have HWZ : Hid (W.heap.size = w.heap.size + 3):=qH (by rw [hW];simp)
 have hmx : Tryz.prog.follows .mixedOrders = true:=by kernel_rfl
 go_enter Tryz.func56,Tryz.ntmps56
 go_upto_region 2 with fail
 rw [<- hW]
 clear hW
 have x5:=HA.out.cell 5 _ rfl
 go_wp2_with fail
 clear x5
 go_loopw [11] (fun i wr => ∃ k : Nat,k <= n2 /\ i = .int .i64 k /\ Hid (BoxC wr (w.heap.size + 2) (pwE.flat (tabL ma ts is k))) /\ Hid (Below w.heap.size w wr) /\ Hid (BoxC wr w.heap.size [.int .i64 c0,.int .i64 c1,.int .i64 c2,.int .i64 c3,.slice a1 n1 a3,.slice a2 n2 a4]) /\ Hid (BoxC wr (w.heap.size + 1) [.string ⟨#[]⟩,.string ⟨#[]⟩,.string ⟨#[]⟩,.string ⟨#[]⟩,.string ⟨#[]⟩,.string ⟨#[]⟩,.string ⟨#[]⟩,.string ⟨#[]⟩,.string ⟨#[]⟩,.string ⟨#[]⟩,.string ⟨#[]⟩,.string ⟨#[]⟩,.string ⟨#[]⟩,.string ⟨#[]⟩,.string ⟨#[]⟩,.string ⟨#[]⟩]) /\ Hid (w.heap.size + 3 <= wr.heap.size)) (fun i _ => n2 - (intOf i).toNat)
 case atStart => exact ⟨0,Nat.zero_le _,rfl,HU,HB0,HA,HT,qH (Nat.le_of_eq HWZ.out.symm)⟩
 case round =>
  clear HU HB0 HA HT
  obtain ⟨k,hk,rfl,HTB,HB,HAB,HTT,HWS⟩:=hrel
  by_cases hlt : k < n2
  · obtain ⟨g,oo,rfl,hg,hc0,hc1,hc2⟩:=ImR.at (SR.below HR.out.i HB.out) hlt
    have hqk:=HQ.out k hlt
    have hsk:=HSZ.out k hlt
    have hin : 0 <= (k : Int) /\ (k : Int) < (n2 : Int):=by omega
    have hin8 : 0 <= (k : Int) /\ (k : Int) < 8:=by omega
    have hts:=tab_set (ma:=ma) (ts:=ts) (is:=is) (k:=k) (by rw [HLN.out];exact hlt) (by omega)
    rw [show prD ma ts (is.getD k imD) = ⟨(is.getD k imD).nm,txtD ma ts (is.getD k imD).tm (is.getD k imD).bd⟩ from rfl] at hts
    have HTL : Hid ((tabL ma ts is k).length = 8):=qH (tab_len (by rw [HLN.out];omega) (by omega))
    generalize (is.getD k imD).nm = nm at *
    generalize (is.getD k imD).tm = tm at *
    generalize (is.getD k imD).bd = bd at *
    have HQK:=qH hqk
    have HSK:=qH hsk
    clear hqk hsk
    go_upto_region 5 with fail
    obtain ⟨V,hV⟩ : ∃ V,V = wr.alloc (.cells #[.string nm,.int .i64 tm,.string bd] 93):=⟨_,rfl⟩
    have HX : Hid (BoxC V wr.heap.size [.string nm,.int .i64 tm,.string bd]):=qH (by rw [hV];exact BoxC.made _ _ _)
    have HVB : Hid (Below wr.heap.size wr V):=qH (by rw [hV];exact (Below.refl _ _).alloc (Nat.le_refl _) _)
    rw [<- hV]
    clear hV hc0 hc1 hc2
    have HUB : Hid (∀ u,Below V.heap.size V u -> Below wr.heap.size wr u):=qH (fun u hu => HVB.out.trans (hu.mono HVB.out.size))
    have HTR : Hid (∀ u,Below V.heap.size V u -> TmR u a1 n1 a3 ts):=qH (fun u hu => SR.below HR.out.t (HB.out.trans ((HUB.out u hu).mono HB.out.size)))
    have HSO : Hid (∀ u,Below V.heap.size V u -> (BoxC u w.heap.size [.int .i64 c0,.int .i64 c1,.int .i64 c2,.int .i64 c3,.slice a1 n1 a3,.slice (some ⟨g,oo,none⟩) n2 a4] /\ BoxC u wr.heap.size [.string nm,.int .i64 tm,.string bd])):=qH (fun u hu => ⟨HAB.out.below (HUB.out u hu),HX.out.below hu⟩)
    generalize htx : txtD ma ts tm bd = tx at *
    have HTX : Hid (∀ u,Below V.heap.size V u -> Calls Tryz.prog 102 #[.agg #[.int .i64 c0,.int .i64 c1,.int .i64 c2,.int .i64 c3,.slice a1 n1 a3,.slice (some ⟨g,oo,none⟩) n2 a4],.string ma,.agg #[.string nm,.int .i64 tm,.string bd]] u fun e u' => e = .returned (.string tx) /\ Below u.heap.size u u'):=qH (fun u hu => by rw [<- htx];exact textIn_any c0 c1 c2 c3 a1 n1 a3 _ n2 a4 ts ma nm tm bd u (HTR.out u hu) HQK.out)
    clear htx
    refine TillZ.region (t:=11) hmx (fun u => BoxC u w.heap.size [.int .i64 c0,.int .i64 c1,.int .i64 c2,.int .i64 c3,.slice a1 n1 a3,.slice (some ⟨g,oo,none⟩) n2 a4] /\ BoxC u wr.heap.size [.string nm,.int .i64 tm,.string bd]) ?_
    have hW0 : Below V.heap.size V V.drew:=(Below.refl _ _).drew
    have hS0:=HSO.out _ hW0
    refine TillZ.take4 (i:=0) (v:=.int .i64 (k : Int)) rfl rfl rfl (by kernel_rfl) hS0 (fun u hu => by go_simp) ?_
    simp only [pS,pN,List.set,zT,zZ,zU]
    refine TillZ.take4 (i:=1) (v:=.pointer (some ⟨wr.heap.size,0,none⟩)) rfl rfl rfl (by kernel_rfl) hS0 (fun u hu => by go_simp) ?_
    simp only [pS,pN,List.set,zT,zZ,zU]
    refine TillZ.take4 (i:=2) (v:=.string nm) rfl rfl rfl (by kernel_rfl) hS0 (fun u hu => by have z:=hu.2.cell 0 _ rfl;go_simp) ?_
    simp only [pS,pN,List.set,zT,zZ,zU]
    refine TillZ.take4 (i:=5) (v:=.agg #[.int .i64 c0,.int .i64 c1,.int .i64 c2,.int .i64 c3,.slice a1 n1 a3,.slice (some ⟨g,oo,none⟩) n2 a4]) rfl rfl rfl (by kernel_rfl) hS0 (fun u hu => exec_load hu.1 42 _ 6 rfl rfl rfl (by kernel_rfl)) ?_
    simp only [pS,pN,List.set,zT,zZ,zU]
    refine TillZ.take4 (i:=6) (v:=.string ma) rfl rfl rfl (by kernel_rfl) hS0 (fun u hu => by go_simp) ?_
    simp only [pS,pN,List.set,zT,zZ,zU]
    refine TillZ.take4 (i:=7) (v:=.agg #[.string nm,.int .i64 tm,.string bd]) rfl rfl rfl (by kernel_rfl) hS0 (fun u hu => exec_load hu.2 93 _ 3 rfl rfl rfl (by kernel_rfl)) ?_
    simp only [pS,pN,List.set,zT,zZ,zU]
    generalize V.drew = u0 at hW0 hS0 ⊢
    clear hS0
    refine TillZ.one (i:=3) (by kernel_rfl) ?_
    refine TillZ.opz (i:=3) (v:=.slice (some ⟨u0.heap.size,0,none⟩) 1 1) (w':=u0.alloc (.cells #[.string nm] 9)) rfl rfl rfl (by go_simp) (HSO.out _ (hW0.alloc hW0.size _)) ?_
    simp only [pS,pN,List.set,zT,zZ,zU]
    obtain ⟨u1,hu⟩ : ∃ X,X = u0.alloc (.cells #[.string nm] 9):=⟨_,rfl⟩
    have hw1 : Below V.heap.size V u1:=by rw [hu];exact hW0.alloc hW0.size _
    have hc3 : u1.cell? ⟨u0.heap.size,0,none⟩ = some (.string nm):=by rw [hu];simp
    have hl3 : u0.heap.size < u1.heap.size:=by rw [hu];simp
    rw [<- hu]
    clear hu
    obtain ⟨p3,hp3⟩ : ∃ p,p = u0.heap.size:=⟨_,rfl⟩
    rw [<- hp3] at hc3 hl3 ⊢
    clear hp3
    refine TillZ.one (i:=4) (by kernel_rfl) ?_
    refine TillZ.callz (i:=4) (f:=101) (args:=#[.slice (some ⟨p3,0,none⟩) 1 1]) rfl rfl rfl (by go_simp) ?_
    refine Calls.mono (joined_at nm p3 u1 hl3 hc3 (by have:=HSK.out;omega)) ?_
    rintro e u2 ⟨rfl,hb⟩
    have hw2:=hw1.trans (hb.mono hw1.size)
    clear hl3 hc3
    refine ⟨_,rfl,HSO.out _ hw2,?_⟩
    clear hb
    simp only [pS,pN,List.set,zT,zZ,zU]
    refine TillZ.one (i:=8) (by kernel_rfl) ?_
    refine TillZ.callz (i:=8) (f:=102) (args:=#[.agg #[.int .i64 c0,.int .i64 c1,.int .i64 c2,.int .i64 c3,.slice a1 n1 a3,.slice (some ⟨g,oo,none⟩) n2 a4],.string ma,.agg #[.string nm,.int .i64 tm,.string bd]]) rfl rfl rfl (by go_simp) ?_
    refine Calls.mono (HTX.out _ hw2) ?_
    rintro e u3 ⟨rfl,hb⟩
    have hw3:=hw2.trans (hb.mono hw2.size)
    refine ⟨_,rfl,HSO.out _ hw3,?_⟩
    clear hb
    simp only [pS,pN,List.set,zT,zZ,zU]
    refine TillZ.value (i:=9) (v:=.agg #[.string nm,.string tx]) (by kernel_rfl) rfl rfl rfl (by go_simp) (HSO.out _ hw3) ?_
    simp only [pS,pN,List.set,zT,zZ,zU]
    refine TillZ.value (i:=10) (v:=.pointer (some ⟨w.heap.size + 2,k * 2,none⟩)) (by kernel_rfl) rfl rfl rfl (by go_simp) (HSO.out _ hw3) ?_
    simp only [pS,pN,List.set,zT,zZ,zU]
    have hbb:=HUB.out _ hw3
    have hbx:=HTB.out.below hbb
    have hfl : (pwE.flat (tabL ma ts is k)).length = 16:=by rw [pwE.flat_length,HTL.out];rfl
    have z0:=hbx.cell (k * 2) _ (List.getElem?_eq_getElem (by omega))
    have z1:=hbx.cell (k * 2 + 1) _ (List.getElem?_eq_getElem (by omega))
    have f0:=hbx.free (k * 2)
    have f1:=hbx.free (k * 2 + 1)
    have e0 : (pwE.flat (tabL ma ts is k)).set (k * 2) (.string nm) = pwE.flat ((tabL ma ts is k).set k ⟨nm,((tabL ma ts is k).getD k pwD).tx⟩):=flat_setX pwE pwD _ k 0 _ _ (by have:=HTL.out;omega) (by decide) rfl
    have e1 : (pwE.flat ((tabL ma ts is k).set k ⟨nm,((tabL ma ts is k).getD k pwD).tx⟩)).set (k * 2 + 1) (.string tx) = pwE.flat (((tabL ma ts is k).set k ⟨nm,((tabL ma ts is k).getD k pwD).tx⟩).set k ⟨nm,tx⟩):=flat_setX pwE pwD _ k 1 _ _ (by rw [List.length_set];have:=HTL.out;omega) (by decide) (by rw [show ((tabL ma ts is k).set k ⟨nm,((tabL ma ts is k).getD k pwD).tx⟩).getD k pwD = ⟨nm,((tabL ma ts is k).getD k pwD).tx⟩ from by simp [List.getD,show k < (tabL ma ts is k).length by have:=HTL.out;omega]];rfl)
    have HNB : Hid (BoxC ((u3.setCell ⟨w.heap.size + 2,k * 2,none⟩ (.string nm)).setCell ⟨w.heap.size + 2,k * 2 + 1,none⟩ (.string tx)) (w.heap.size + 2) (pwE.flat (tabL ma ts is (k + 1)))):=qH (by
     have h1:=(hbx.set (j:=k * 2) (by omega) (.string nm)).set (j:=k * 2 + 1) (by rw [List.length_set];omega) (.string tx)
     rw [e0,e1,List.set_set,hts] at h1
     exact h1)
    have hG : World.grownBy u3 ((u3.setCell ⟨w.heap.size + 2,k * 2,none⟩ (.string nm)).setCell ⟨w.heap.size + 2,k * 2 + 1,none⟩ (.string tx)) (some (w.heap.size + 2)):=grown_trans (set_grown _ _ _ _) (set_grown _ _ _ _)
    have HNW : Hid (Below w.heap.size w ((u3.setCell ⟨w.heap.size + 2,k * 2,none⟩ (.string nm)).setCell ⟨w.heap.size + 2,k * 2 + 1,none⟩ (.string tx))):=qH (grown_below (HB.out.trans (hbb.mono HB.out.size)) hG (by omega) (HB.out.trans (hbb.mono HB.out.size)).size)
    have HNA:=qH ((HAB.out.below hbb).grown hG (by simp))
    have HNT:=qH ((HTT.out.below hbb).grown hG (by simp))
    have HNS:=qH (Nat.le_trans HWS.out (Nat.le_trans hbb.size hG.size))
    refine TillZ.hand_skip (by kernel_rfl) rfl rfl (w':=(u3.setCell ⟨w.heap.size + 2,k * 2,none⟩ (.string nm)).setCell ⟨w.heap.size + 2,k * 2 + 1,none⟩ (.string tx)) (by go_simp) ?_
    simp only [pS,pN,List.set,zT,zZ,zU]
    refine TillZ.any_done (by kernel_rfl) ?_ _
    clear z0 z1 f0 f1 e0 e1 hbx hbb hG hfl
    generalize (u3.setCell ⟨w.heap.size + 2,k * 2,none⟩ (.string nm)).setCell ⟨w.heap.size + 2,k * 2 + 1,none⟩ (.string tx) = uz at *
    go_wp2_with fail
    go_roundw
    case rel => exact ⟨k + 1,by omega,by go_num,HNB,HNW,HNA,HNT,HNS⟩
    case measure => simp [intOf];omega
  · obtain rfl : k = n2:=by omega
    have HFL : Hid ((pwE.flat (tabL ma ts is k)).length = 16):=qH (by rw [pwE.flat_length,tab_len (by rw [HLN.out];omega) (by omega)];rfl)
    have HON:=qH (flat_one (tabL ma ts is k))
    have HG : Hid (World.grownBy wr (wr.setCells (w.heap.size + 1) 0 (pwE.flat (tabL ma ts is k))) (some (w.heap.size + 1))):=qH (setCells_grown _ _ _ _)
    have HNW:=qH (grown_below HB.out HG.out (by omega) HB.out.size)
    have HNT:=qH (box_setCells HTT.out (pwE.flat (tabL ma ts is k)) (by rw [HFL.out];rfl))
    generalize hfl : pwE.flat (tabL ma ts is k) = fl at *
    have HFE:=qH hfl
    clear hfl
    go_wp2_with (first | (refine list_load HTB.out 99 _ 16 rfl rfl rfl HFL.out (by kernel_rfl) ?_;simp only [pS,pN,List.set,zT,zZ,zU]) | (refine list_store HTT.out 99 _ _ 16 rfl rfl rfl rfl rfl HFL.out HON.out (by kernel_rfl) ?_;simp only [pS,pN,List.set,zT,zZ,zU]))
    exact bodyPost_ret (v:=.agg fl.toArray) (results_box HNT.out Tryz.results56 rfl HFL.out (by kernel_rfl)) rfl ⟨by rw [HFE.out],HNW.out⟩
end Go.Proofs.YtgafndgnmadcfaaGreatDoor
