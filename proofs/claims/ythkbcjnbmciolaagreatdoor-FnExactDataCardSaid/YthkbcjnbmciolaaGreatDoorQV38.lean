/- Used by the law. -/
import Derived.Test.YthkbcjnbmciolaaGreatDoorQV37
set_option maxRecDepth 100000
set_option maxHeartbeats 16000000
namespace Go.Proofs.YthkbcjnbmciolaaGreatDoor
open Go.RowKit Go.PlainAid G MGF IRow
set_option linter.unusedVariables false
structure Spared (lo hi : Nat) (w w' : World) : Prop where
 size : w.heap.size <= w'.heap.size
 row : ∀ (base : Nat) (e : TypeId) (size : Nat) (v : Value) (n : Nat) (xs : List Value),w.ownsRow base e size v n xs -> (∀ q,v.ownBlock = some q -> q < lo ∨ hi <= q) -> w'.ownsRow base e size v n xs
 box : ∀ (h : Nat) (cs : List Value),BoxC w h cs -> (h < lo ∨ hi <= h) -> BoxC w' h cs
 low : ∀ (B : Nat) (w0 : World),B <= lo -> B <= w.heap.size -> Below B w0 w -> Below B w0 w'
theorem Spared.of_below {lo hi : Nat} {w w' : World} (hb : Below w.heap.size w w') : Spared lo hi w w' :=
 ⟨hb.size,fun _ _ _ _ _ _ h _ => own_below h hb,fun _ _ h _ => h.below hb,fun _ _ _ h2 h => h.trans (hb.mono h2)⟩
theorem Spared.of_grown {lo hi : Nat} {w w' : World} {r : Option Nat} (hg : w.grownBy w' r) (hr : ∀ q,r = some q -> lo <= q /\ q < hi) : Spared lo hi w w':=by
 refine ⟨hg.size,fun base e size v n xs h hne => h.kept hg ?_,fun h cs b hne => b.grown hg (fun e => by have:=hr h e.symm;omega),fun B w0 h1 h2 hb => hb.grown hg h2 (fun q hq => by have:=(hr q hq).1;omega)⟩
 cases hv : v.ownBlock with
 | none => exact .inl rfl
 | some g => exact .inr (fun h2 => by have:=hr g h2.symm;have:=hne g hv;omega)
theorem Spared.trans {lo hi : Nat} {w w1 w2 : World} (h : Spared lo hi w w1) (k : Spared lo hi w1 w2) : Spared lo hi w w2 :=
 ⟨Nat.le_trans h.size k.size,fun b e s v n xs hx hn => k.row b e s v n xs (h.row b e s v n xs hx hn) hn,fun q cs b hn => k.box q cs (h.box q cs b hn) hn,fun B w0 h1 h2 hb => k.low B w0 h1 (Nat.le_trans h2 h.size) (h.low B w0 h1 h2 hb)⟩
theorem markRekey_any (on : Bool) (nd mn : Int) (r1 : Option Addr) (base rn r2 : Nat) (rs : List Ev) (k0 lo hi : Nat) (w : World) (h : w.ownsRow base 101 evE.k (.slice r1 rn r2) rn (evE.flat rs)) (hn : rn <= 1048576) (hk0 : 0 < k0) (hk1 : k0 <= 1099511627776) (hq : ∀ q,(Value.slice r1 rn r2).ownBlock = some q -> lo <= q /\ q < hi) :
 Calls Tryz.prog 36 #[.agg #[.bool on,.int .i64 nd,.int .i64 mn,.slice r1 rn r2],.int .i64 (k0 : Int)] w fun e w' => e = .returned (.int .i64 ((k0 : Int) + 5 * (rn : Int))) /\ Spared lo hi w w':=by
 obtain ⟨W,hW⟩ : ∃ W,W = w.alloc (.cells #[.bool on,.int .i64 nd,.int .i64 mn,.slice r1 rn r2] 46):=⟨_,rfl⟩
 have hB0 : Below w.heap.size w W:=by rw [hW];exact (Below.refl _ _).alloc (Nat.le_refl _) _
 have HX:=qH (show BoxC W w.heap.size [.bool on,.int .i64 nd,.int .i64 mn,.slice r1 rn r2] by rw [hW];exact BoxC.made _ _ _)
 have HO:=qH (own_below h hB0)
 have HB0:=qH hB0
 have HQ:=qH hq
 clear h hB0 hq
 go_enter Tryz.func36,Tryz.ntmps36
 go_upto_region 1 with fail
 rw [<- hW]
 clear hW
 have x3:=HX.out.cell 3 _ rfl
 go_wp2_with fail
 refine (markEnvS_any r1 base rn r2 rs k0 W HO.out hn hk0 hk1).mono ?_
 rintro e w1 ⟨rfl,_,hg⟩
 have HS:=qH ((Spared.of_below HB0.out).trans (Spared.of_grown hg HQ.out))
 clear hg x3
 go_wp2_with fail
 go_ret
 exact ⟨rfl,HS.out⟩
theorem markVaultV {p : VP} {v : Value} {base : Nat} {u w : World} (h : VN p v base u) (hb : Below u.heap.size u w) (hgd : VGd p) :
 Calls Tryz.prog 10 #[v,.int .i64 1] w fun e w' => ∃ r : Int,e = .returned (.int .i64 r) /\ ¬ r < 0 /\ Spared base u.heap.size w w':=by
 obtain ⟨b1,b3,b2,b4,g1,g2,r1,r2,hva,ho⟩:=h
 have HVA:=qH hva
 have HN:=qH hgd.v.n
 have HQ1 : Hid (∀ q,(Value.slice b1 p.n1 b3).ownBlock = some q -> base <= q /\ q < u.heap.size):=qH (fun q hq => ho.b.t.lt q hq)
 have HQ2 : Hid (∀ q,(Value.slice b2 p.n2 b4).ownBlock = some q -> base <= q /\ q < u.heap.size):=qH (fun q hq => ho.b.i.lt q hq)
 have HQ3 : Hid (∀ q,(Value.slice g1 p.gn g2).ownBlock = some q -> base <= q /\ q < u.heap.size):=qH (fun q hq => ho.g.lt q hq)
 have HQ4 : Hid (∀ q,(Value.slice r1 p.rn r2).ownBlock = some q -> base <= q /\ q < u.heap.size):=qH (fun q hq => ho.r.lt q hq)
 have hD1 : Disj (.slice g1 p.gn g2) (.slice b1 p.n1 b3):=own_types ho.g ho.b.t (by decide)
 have hD2 : Disj (.slice g1 p.gn g2) (.slice b2 p.n2 b4):=own_types ho.g ho.b.i (by decide)
 have hD3 : Disj (.slice r1 p.rn r2) (.slice b1 p.n1 b3):=own_types ho.r ho.b.t (by decide)
 have hD4 : Disj (.slice r1 p.rn r2) (.slice b2 p.n2 b4):=own_types ho.r ho.b.i (by decide)
 have HD:=qH (And.intro hD1 (And.intro hD2 (And.intro hD3 (And.intro hD4 ho.d.symm))))
 obtain ⟨W,hW⟩ : ∃ W,W = w.alloc (.cells (cellsV v) 48):=⟨_,rfl⟩
 have hB0 : Below w.heap.size w W:=by rw [hW];exact (Below.refl _ _).alloc (Nat.le_refl _) _
 have HX:=qH (show BoxC W w.heap.size [.string p.ds,.string p.dt,.int .i64 p.c0,.int .i64 p.c1,.int .i64 p.c2,.int .i64 p.c3,.slice b1 p.n1 b3,.slice b2 p.n2 b4,.bool p.op,.string p.ma,.slice g1 p.gn g2,.int .i64 p.no,.bool p.on,.int .i64 p.nd,.int .i64 p.mn,.slice r1 p.rn r2] by rw [hW,HVA.out];exact BoxC.made _ _ _)
 have hUW:=hb.trans (hB0.mono hb.size)
 have HOW:=qH (ho.below hUW)
 have HUS : Hid (u.heap.size <= w.heap.size):=qH hb.size
 have HS0 : Hid (Spared base u.heap.size w W):=qH (Spared.of_below hB0)
 clear hD1 hD2 hD3 hD4 hB0 hUW hb ho hva hgd
 go_enter Tryz.func10,Tryz.ntmps10
 go_upto_region 1 with (refine list_value rfl (exec_box (v:=v) 48 _ rfl rfl) ?_;simp only [pS,List.set])
 rw [<- hW]
 clear hW HVA
 have x2:=HX.out.cell 2 _ rfl
 have x3:=HX.out.cell 3 _ rfl
 have x4:=HX.out.cell 4 _ rfl
 have x5:=HX.out.cell 5 _ rfl
 have x6:=HX.out.cell 6 _ rfl
 have x7:=HX.out.cell 7 _ rfl
 go_wp2_with fail
 clear x2 x3 x4 x5 x6 x7
 refine (markBook_any p.c0 p.c1 p.c2 p.c3 b1 b2 base p.n1 p.n2 b3 b4 p.ts p.is 1 W HOW.out.b HN.out.1 HN.out.2.1 (by omega) (by omega)).mono ?_
 rintro e w2 ⟨rfl,_,w1,hg1,hg2⟩
 have hS1:=(Spared.of_grown (lo:=base) (hi:=u.heap.size) hg1 HQ1.out).trans (Spared.of_grown hg2 HQ2.out)
 have HS1:=qH (HS0.out.trans hS1)
 have HX1:=qH (hS1.box _ _ HX.out (.inr HUS.out))
 have HG1:=qH (own_grown (own_grown HOW.out.g hg1 HD.out.1) hg2 HD.out.2.1)
 have HR1:=qH (own_grown (own_grown HOW.out.r hg1 HD.out.2.2.1) hg2 HD.out.2.2.2.1)
 clear hg1 hg2 hS1 HX HS0 HOW
 have x10:=HX1.out.cell 10 _ rfl
 have hk : ∃ k : Nat,((1 : Nat) : Int) + 2 * (p.n1 : Int) + 3 * (p.n2 : Int) = (k : Int) /\ 0 < k /\ k <= 8388608:=⟨1 + 2 * p.n1 + 3 * p.n2,by omega,by omega,by have:=HN.out;omega⟩
 obtain ⟨k,hke,hk0,hk1⟩:=hk
 rw [hke]
 clear hke
 go_wp2_with fail
 refine (markEnvS_any g1 base p.gn g2 p.gs k w2 HG1.out HN.out.2.2.1 hk0 (by omega)).mono ?_
 rintro e w3 ⟨rfl,_,hg⟩
 have hS2:=Spared.of_grown (lo:=base) (hi:=u.heap.size) hg HQ3.out
 have HS2:=qH (HS1.out.trans hS2)
 have HX2:=qH (hS2.box _ _ HX1.out (.inr HUS.out))
 have HR2:=qH (own_grown HR1.out hg HD.out.2.2.2.2)
 clear hg hS2 HX1 HS1 HG1 HR1 x10
 have x12:=HX2.out.cell 12 _ rfl
 have x13:=HX2.out.cell 13 _ rfl
 have x14:=HX2.out.cell 14 _ rfl
 have x15:=HX2.out.cell 15 _ rfl
 have hm : ∃ m : Nat,(k : Int) + 5 * (p.gn : Int) = (m : Int) /\ 0 < m /\ m <= 16777216:=⟨k + 5 * p.gn,by omega,by omega,by have:=HN.out;omega⟩
 obtain ⟨m,hme,hm0,hm1⟩:=hm
 rw [hme]
 clear hme
 go_wp2_with fail
 refine (markRekey_any p.on p.nd p.mn r1 base p.rn r2 p.rs m base u.heap.size w3 HR2.out HN.out.2.2.2 hm0 (by omega) HQ4.out).mono ?_
 rintro e w4 ⟨rfl,hs⟩
 have HS3:=qH (HS2.out.trans hs)
 clear hs x12 x13 x14 x15
 go_wp2_with fail
 go_ret
 exact ⟨_,rfl,by omega,HS3.out⟩
structure Pw where
 nm : ByteArray
 tx : ByteArray
def pwD : Pw:=⟨ByteArray.empty,ByteArray.empty⟩
def pwE : Enc Pw:=⟨2,fun e => [.string e.nm,.string e.tx],fun _ => rfl,by intro x v hv;simp at hv;rcases hv with rfl | rfl <;> rfl⟩
theorem eqPair_same (q0 : ByteArray) (q1 : ByteArray) (w : World) :
 Calls Tryz.prog 29 #[.agg #[.string q0,.string q1],.agg #[.string q0,.string q1]] w fun e w' => e = .returned (.bool true) /\ Below w.heap.size w w':=by
 go_enter Tryz.func29,Tryz.ntmps29
 go_wp2_with fail
 go_ret
 exact ⟨rfl,((Below.refl _ _).alloc (Nat.le_refl _) _).alloc (by simp) _⟩
abbrev PwR (w : World) (a : Option Addr) (n cap : Nat) (l : List Pw) : Prop:=SR pwE pwD w a n cap l
theorem PwR.at {w : World} {a : Option Addr} {n cap : Nat} {l : List Pw} (h : PwR w a n cap l) {i : Nat} (hi : i < n) : ∃ g o,a = some ⟨g,o,none⟩ /\ g < w.heap.size /\ w.cell? ⟨g,o + i * 2,none⟩ = some (.string (l.getD i pwD).nm) /\ w.cell? ⟨g,o + i * 2 + 1,none⟩ = some (.string (l.getD i pwD).tx):=by
 obtain ⟨g,o,ha,hg,hc⟩:=h.cells (by omega)
 exact ⟨g,o,ha,hg,hc i hi 0 _ rfl,hc i hi 1 _ rfl⟩
theorem PwR.own {w : World} {base n cap : Nat} {a : Option Addr} {e : TypeId} {l : List Pw} (h : w.ownsRow base e pwE.k (.slice a n cap) n (pwE.flat l)) : PwR w a n cap l:=SR.own (by decide) h
theorem PwR.olen {w : World} {base n cap : Nat} {a : Option Addr} {e : TypeId} {l : List Pw} (h : w.ownsRow base e pwE.k (.slice a n cap) n (pwE.flat l)) : l.length = n:=by
 have:=h.1;rw [pwE.flat_length] at this;exact Nat.eq_of_mul_eq_mul_right (show 0 < pwE.k by decide) this
theorem infoPair : (Tryz.prog.info? 66).map (fun i => (i.zero,i.size,i.bytes)) = some (some (.agg #[.string ByteArray.empty,.string ByteArray.empty]),2,32):=by kernel_rfl
theorem PwR.set0 {w : World} {base g n cap : Nat} {e : TypeId} {ps : List Pw} (h : w.ownsRow base e pwE.k (.slice (some ⟨g,0,none⟩) n cap) n (pwE.flat ps)) {i : Nat} (hi : i < n) (v : ByteArray) :
 (w.setCell ⟨g,i * 2,none⟩ (.string v)).ownsRow base e pwE.k (.slice (some ⟨g,0,none⟩) n cap) n (pwE.flat (ps.set i ⟨v,(ps.getD i pwD).tx⟩)) /\ w.grownBy (w.setCell ⟨g,i * 2,none⟩ (.string v)) (some g):=by
 have hl:=PwR.olen h
 obtain ⟨h1,g1⟩:=h.stored (i * 2) (.string v)
 have e1 : (pwE.flat ps).set (i * 2) (.string v) = pwE.flat (ps.set i ⟨v,(ps.getD i pwD).tx⟩):=flat_setX pwE pwD ps i 0 _ _ (by omega) (by decide) rfl
 rw [e1] at h1
 exact ⟨h1,g1⟩
theorem PwR.set1 {w : World} {base g n cap : Nat} {e : TypeId} {ps : List Pw} (h : w.ownsRow base e pwE.k (.slice (some ⟨g,0,none⟩) n cap) n (pwE.flat ps)) {i : Nat} (hi : i < n) (v : ByteArray) :
 (w.setCell ⟨g,i * 2 + 1,none⟩ (.string v)).ownsRow base e pwE.k (.slice (some ⟨g,0,none⟩) n cap) n (pwE.flat (ps.set i ⟨(ps.getD i pwD).nm,v⟩)) /\ w.grownBy (w.setCell ⟨g,i * 2 + 1,none⟩ (.string v)) (some g):=by
 have hl:=PwR.olen h
 obtain ⟨h1,g1⟩:=h.stored (i * 2 + 1) (.string v)
 have e1 : (pwE.flat ps).set (i * 2 + 1) (.string v) = pwE.flat (ps.set i ⟨(ps.getD i pwD).nm,v⟩):=flat_setX pwE pwD ps i 1 _ _ (by omega) (by decide) rfl
 rw [e1] at h1
 exact ⟨h1,g1⟩
theorem eqPairS_same (a b : Option Addr) (n cap cbp : Nat) (l : List Pw) (w : World) (h : PwR w a n cap l) (k : PwR w b n cbp l) (hn : n <= 1048576) :
 Calls Tryz.prog 8 #[.slice a n cap,.slice b n cbp] w fun e w' => e = .returned (.bool true) /\ Below w.heap.size w w':=by
 go_enter Tryz.func8,Tryz.ntmps8
 go_wp2_with fail
 go_loopw [5] (fun i wr => ∃ j : Nat,j <= n /\ i = .int .i64 j /\ Below w.heap.size w wr) (fun i _ => n - (intOf i).toNat)
 case atStart => exact ⟨0,Nat.zero_le _,rfl,Below.refl _ _⟩
 case round =>
  obtain ⟨j,hj,rfl,hB⟩:=hrel
  have HB:=qH hB.drew
  by_cases hlt : j < n
  · obtain ⟨g,o,rfl,hg,hc0,hc1⟩:=h.at hlt
    obtain ⟨g',o',rfl,hg',hd0,hd1⟩:=k.at hlt
    have a0:=(hB.cell (p:=⟨g,o + j * 2,none⟩) hg).trans hc0
    have a1:=(hB.cell (p:=⟨g,o + j * 2 + 1,none⟩) hg).trans hc1
    have b0:=(hB.cell (p:=⟨g',o' + j * 2,none⟩) hg').trans hd0
    have b1:=(hB.cell (p:=⟨g',o' + j * 2 + 1,none⟩) hg').trans hd1
    generalize (l.getD j pwD).nm = q0 at *
    generalize (l.getD j pwD).tx = q1 at *
    clear hc0 hc1 hd0 hd1 h k hB
    go_wp2_with fail
    go_still_tail 8,(by kernel_rfl)
    change wpList _ _ _ _ _ wr.drew
    clear a0 a1 b0 b1
    generalize wr.drew = we at *
    go_wp2_with fail
    refine (eqPair_same q0 q1 _).mono ?_
    rintro e w5 ⟨rfl,hb⟩
    have HB5:=qH (HB.out.trans (hb.mono HB.out.size))
    clear hb
    go_wp2_with fail
    go_roundw
    case rel => exact ⟨j + 1,by omega,by go_num,HB5.out⟩
    case measure => simp [intOf] <;> omega
  · obtain rfl : j = n:=by omega
    have HB2:=qH hB
    clear h k hB
    go_wp2_with fail
    go_ret
    exact ⟨rfl,HB2.out⟩
def mkPw (k j : Nat) : Pw:=⟨mkt (k + 2 * j),mkt (k + 2 * j + 1)⟩
def marksPw (k n : Nat) : List Pw:=(List.range n).map (mkPw k)
theorem marksPw_length (k n : Nat) : (marksPw k n).length = n:=by simp [marksPw]
theorem marksPw_getD {k n j : Nat} (h : j < n) : (marksPw k n).getD j pwD = mkPw k j:=by simp [marksPw,List.getD,h]
theorem markPairS_any (a : Option Addr) (base n cap : Nat) (zs : List Pw) (k0 : Nat) (w : World) (h : w.ownsRow base 66 pwE.k (.slice a n cap) n (pwE.flat zs)) (hn : n <= 1048576) (hk0 : 0 < k0) (hk1 : k0 <= 1099511627776) :
 Calls Tryz.prog 11 #[.slice a n cap,.int .i64 (k0 : Int)] w fun e w' => e = .returned (.int .i64 ((k0 : Int) + 2 * (n : Int))) /\ w'.ownsRow base 66 pwE.k (.slice a n cap) n (pwE.flat (marksPw k0 n)) /\ w.grownBy w' (Value.slice a n cap).ownBlock:=by
 have hl:=PwR.olen h
 have HML:=qH (marksPw_length k0 n)
 have HZL:=qH hl
 clear hl
 go_enter Tryz.func11,Tryz.ntmps11
 go_wp2_with fail
 go_loopw [1,5] (fun k i wr => ∃ j : Nat,j <= n /\ i = .int .i64 j /\ k = .int .i64 ((k0 : Int) + 2 * (j : Int)) /\ wr.ownsRow base 66 pwE.k (.slice a n cap) n (pwE.flat (mixX (marksPw k0 n) zs j)) /\ w.grownBy wr (Value.slice a n cap).ownBlock) (fun _ i _ => n - (intOf i).toNat)
 case atStart => exact ⟨0,Nat.zero_le _,rfl,by simp,by rw [mixX_zero];exact h,⟨rfl,rfl,rfl,Nat.le_refl _,fun _ _ _ => rfl⟩⟩
 case round =>
  obtain ⟨j,hj,rfl,rfl,hown,hg⟩:=hrel
  by_cases hlt : j < n
  · obtain ⟨g,c,hv,_,hgl⟩:=hown.form (by omega)
    simp only [Value.slice.injEq] at hv
    obtain ⟨rfl,_,rfl⟩:=hv
    have HMT0 : Hid (∀ (r : Int) (u : World),r = (k0 : Int) + 2 * (j : Int) -> Calls Tryz.prog 37 #[.int .i64 r] u fun e w' => e = .returned (.string (mkt (k0 + 2 * j))) /\ Below u.heap.size u w'):=qH (fun r u hr => by
     have hm:=markText_any (k0 + 2 * j) (w:=u) (by omega) (by omega)
     rwa [show ((k0 + 2 * j : Nat) : Int) = r by omega] at hm)
    have HMT1 : Hid (∀ (r : Int) (u : World),r = (k0 : Int) + 2 * (j : Int) + 1 -> Calls Tryz.prog 37 #[.int .i64 r] u fun e w' => e = .returned (.string (mkt (k0 + 2 * j + 1))) /\ Below u.heap.size u w'):=qH (fun r u hr => by
     have hm:=markText_any (k0 + 2 * j + 1) (w:=u) (by omega) (by omega)
     rwa [show ((k0 + 2 * j + 1 : Nat) : Int) = r by omega] at hm)
    have HST:=qH (mixX_set pwD (zs:=marksPw k0 n) (ys:=zs) (k:=j) (by rw [HML.out,HZL.out]) (by rw [HML.out];exact hlt))
    rw [marksPw_getD hlt] at HST
    have HMJ : Hid (j < (mixX (marksPw k0 n) zs j).length):=qH (by rw [mixX_length (by rw [HML.out,HZL.out]),HML.out];exact hlt)
    have gd : ∀ (ps : List Pw) (p q : Pw),((ps.set j p).set j q) = ps.set j q:=fun ps p q => by rw [List.set_set]
    have ge : ∀ p : Pw,((mixX (marksPw k0 n) zs j).set j p).getD j pwD = p:=fun p => by simp [List.getD,HMJ.out]
    have GD:=qH gd
    have GE:=qH ge
    clear gd ge h
    have HO0:=qH hown
    have HG0:=qH hg
    clear hown hg
    go_wp2_with fail
    refine (HMT0.out _ _ (by omega)).mono ?_
    rintro e w5 ⟨rfl,hb⟩
    have hown5:=own_below HO0.out hb
    have hg5:=grown_trans HG0.out (fg_below hb)
    clear hb HO0 HG0
    obtain ⟨g',o',hge,_,x0,x1⟩:=(PwR.own hown5).at hlt
    simp only [Option.some.injEq,Addr.mk.injEq,and_true] at hge
    obtain ⟨rfl,rfl⟩:=hge
    rw [Nat.zero_add] at x0 x1
    have y0:=hown5.frozenAt (j * 2)
    clear x1
    have s0:=PwR.set0 hown5 hlt (mkt (k0 + 2 * j))
    have HO1:=qH s0.1
    have HG1:=qH (grown_trans hg5 s0.2)
    clear s0
    clear hown5 hg5
    go_wp2_with fail
    clear x0 y0
    refine (HMT1.out _ _ (by omega)).mono ?_
    rintro e w5 ⟨rfl,hb⟩
    have hown5:=own_below HO1.out hb
    have hg5:=grown_trans HG1.out (fg_below hb)
    clear hb HO1 HG1
    obtain ⟨g',o',hge,_,x0,x1⟩:=(PwR.own hown5).at hlt
    simp only [Option.some.injEq,Addr.mk.injEq,and_true] at hge
    obtain ⟨rfl,rfl⟩:=hge
    rw [Nat.zero_add] at x0 x1
    have y1:=hown5.frozenAt (j * 2 + 1)
    clear x0
    have s1:=PwR.set1 hown5 hlt (mkt (k0 + 2 * j + 1))
    rw [GD.out,GE.out] at s1
    have HO2:=qH s1.1
    have HG2:=qH (grown_trans hg5 s1.2)
    clear s1
    clear hown5 hg5
    go_wp2_with fail
    go_roundw
    case rel => exact ⟨j + 1,by omega,by go_num,by go_num,by rw [<- HST.out];exact HO2.out,HG2.out⟩
    case measure => simp [intOf] <;> omega
  · obtain rfl : j = n:=by omega
    have hm : mixX (marksPw k0 j) zs j = marksPw k0 j:=by
     have:=mixX_all (zs:=marksPw k0 j) (ys:=zs) (by rw [HML.out,HZL.out])
     rwa [HML.out] at this
    rw [hm] at hown
    have HO:=qH hown
    have HG:=qH hg
    clear hown hg hm h
    go_wp2_with fail
    go_ret
    exact ⟨rfl,HO.out,HG.out⟩
theorem heldPairS_any (a : Option Addr) (n cap k0 : Nat) (w : World) (h : PwR w a n cap (marksPw k0 n)) (hn : n <= 1048576) (hk0 : 0 < k0) (hk1 : k0 <= 1099511627776) :
 Calls Tryz.prog 12 #[.slice a n cap,.int .i64 (k0 : Int)] w fun e w' => e = .returned (.int .i64 ((k0 : Int) + 2 * (n : Int))) /\ Below w.heap.size w w':=by
 go_enter Tryz.func12,Tryz.ntmps12
 go_wp2_with fail
 go_loopw [1,5] (fun k i wr => ∃ j : Nat,j <= n /\ i = .int .i64 j /\ k = .int .i64 ((k0 : Int) + 2 * (j : Int)) /\ Below w.heap.size w wr) (fun _ i _ => n - (intOf i).toNat)
 case atStart => exact ⟨0,Nat.zero_le _,rfl,by simp,Below.refl _ _⟩
 case round =>
  obtain ⟨j,hj,rfl,rfl,hB⟩:=hrel
  by_cases hlt : j < n
  · obtain ⟨g,o,rfl,hg,hc0,hc1⟩:=h.at hlt
    rw [marksPw_getD hlt] at hc0 hc1
    unfold mkPw at hc0 hc1
    dsimp only at hc0 hc1
    have HC : Hid (∀ u,Below w.heap.size w u -> u.cell? ⟨g,o + j * 2,none⟩ = some (.string (mkt (k0 + 2 * j))) /\ u.cell? ⟨g,o + j * 2 + 1,none⟩ = some (.string (mkt (k0 + 2 * j + 1)))):=qH (fun u hb => ⟨(hb.cell (p:=⟨g,o + j * 2,none⟩) hg).trans hc0,(hb.cell (p:=⟨g,o + j * 2 + 1,none⟩) hg).trans hc1⟩)
    have HMT0 : Hid (∀ (r : Int) (u : World),r = (k0 : Int) + 2 * (j : Int) -> Calls Tryz.prog 37 #[.int .i64 r] u fun e w' => e = .returned (.string (mkt (k0 + 2 * j))) /\ Below u.heap.size u w'):=qH (fun r u hr => by
     have hm:=markText_any (k0 + 2 * j) (w:=u) (by omega) (by omega)
     rwa [show ((k0 + 2 * j : Nat) : Int) = r by omega] at hm)
    have HMT1 : Hid (∀ (r : Int) (u : World),r = (k0 : Int) + 2 * (j : Int) + 1 -> Calls Tryz.prog 37 #[.int .i64 r] u fun e w' => e = .returned (.string (mkt (k0 + 2 * j + 1))) /\ Below u.heap.size u w'):=qH (fun r u hr => by
     have hm:=markText_any (k0 + 2 * j + 1) (w:=u) (by omega) (by omega)
     rwa [show ((k0 + 2 * j + 1 : Nat) : Int) = r by omega] at hm)
    generalize mkt (k0 + 2 * j) = t0 at *
    generalize mkt (k0 + 2 * j + 1) = t1 at *
    clear hc0 hc1 h
    have hFn:=hB
    go_wp2_with fail
    replace hFn:=hFn.drew
    go_region_held3 (fun u => u.cell? ⟨g,o + j * 2,none⟩ = some (.string t0)) (exact (HC.out _ hFn).1)
     (first | (go_at_call 37;refine Calls.mono (HMT0.out _ _ rfl) ?_;rintro e w1 ⟨rfl,hb⟩;have hFn:=hFn.trans (hb.mono hFn.size)))
    all_goals
     go_wp2_with fail
     replace hFn:=hFn.drew
     go_region_held3 (fun u => u.cell? ⟨g,o + j * 2 + 1,none⟩ = some (.string t1)) (exact (HC.out _ hFn).2)
      (first | (go_at_call 37;refine Calls.mono (HMT1.out _ _ rfl) ?_;rintro e w1 ⟨rfl,hb⟩;have hFn:=hFn.trans (hb.mono hFn.size)))
     all_goals
      go_wp2_with fail
      go_roundw
      case rel => exact ⟨j + 1,by omega,by go_num,by go_num,hFn⟩
      case measure => simp [intOf] <;> omega
  · obtain rfl : j = n:=by omega
    have HB:=qH hB
    clear hB h
    go_wp2_with fail
    go_ret
    exact ⟨rfl,HB.out⟩
end Go.Proofs.YthkbcjnbmciolaaGreatDoor
namespace Go.Proofs.YthkbcjnbmciolaaGreatDoor
open Go.RowKit Go.PlainAid G
set_option linter.unusedVariables false
theorem bt_at (s : ByteArray) (k : Nat) (h : k < s.size) : ((s[k]'h).toNat : Int) = bt s k:=by unfold bt;rw [dif_pos h]
theorem lk_loop {w : World} {g : Nat} {key t : ByteArray} {n k : Nat} {old : Nat -> Int} (h : LkAt w g t.size (lkM key n t old k)) : LkAt (w.setCell ⟨g,k,none⟩ (.int .u8 (lkB key n t k))) g t.size (lkM key n t old (k + 1)) :=
 (h.set (lkB key n t k)).congr (fun i _ => lkM_step key n t old k i)
theorem lk_made {w w1 : World} {e : TypeId} {key t : ByteArray} {n : Nat} (h : w1.ownsRow w.heap.size e 1 (.slice (some ⟨w.heap.size,0,none⟩) t.size t.size) t.size (madeCells (Value.int .u8 0).cells (t.size * 1)).toList) :
 LkAt w1 w.heap.size t.size (lkM key n t (fun _ => 0) 0):=by
 refine ⟨fun i hi => ?_,fun i _ => h.frozenAt i⟩
 rw [h.cellAt i (by omega)]
 unfold lkM
 rw [if_neg (by omega)]
 simp [madeCells,Value.cells,Nat.mod_one,hi]
theorem l06Lock_any (key : ByteArray) (n : Nat) (t : ByteArray) (w : World) (hk1 : 1 <= key.size) (hk2 : key.size <= 16) (hn : n <= 1000000) (ht : t.size <= 1048576) :
 Calls Tryz.prog 19 #[.string key,.int .i64 n,.string t] w fun e w' => e = .returned (.string (lkS key n t)) /\ Below w.heap.size w w':=by
 have hcv : ∀ u : World,(convert 9 95 (.string t)).run Tryz.prog u = .ok (.slice (some ⟨u.heap.size,0,none⟩) t.size (grownCap u t.size 0 5)) (Lib.bytesWorld u 5 t):=fun u => Lib.run_convert_string_bytes u _ _ _ t Tryz.underlying9 Tryz.underlying95 Tryz.underlying5
 have hlk:=lk_bytes w 5 t
 have hbl:=below_lk w 5 t
 have hsz:=Lib.bytesWorld_size w 5 t
 have HLK : Hid (LkAt (Lib.bytesWorld w 5 t) w.heap.size t.size (lkM key n t (bt t) 0)):=qH (hlk.congr (fun i _ => by unfold lkM;rw [if_neg (by omega)]))
 have HBL:=qH hbl
 have HSZ : Hid (w.heap.size < (Lib.bytesWorld w 5 t).heap.size):=qH (by omega)
 clear hlk hbl hsz
 go_enter Tryz.func19,Tryz.ntmps19
 go_wp2_with fail
 clear hcv
 generalize Lib.bytesWorld w 5 t = wb at *
 generalize grownCap w t.size 0 5 = cap
 go_loopw [8] (fun i wr => ∃ k : Nat,k <= t.size /\ i = .int .i64 k /\ LkAt wr w.heap.size t.size (lkM key n t (bt t) k) /\ Below w.heap.size w wr /\ w.heap.size < wr.heap.size) (fun i _ => t.size - (intOf i).toNat)
 case atStart => exact ⟨0,Nat.zero_le _,rfl,HLK.out,HBL.out,HSZ.out⟩
 case round =>
  obtain ⟨k,hk,rfl,hL,hB,hg⟩:=hrel
  clear HLK HBL HSZ
  by_cases hlt : k < t.size
  · have hck:=hL.cell k hlt
    have hfk:=hL.free k hlt
    have hold : lkM key n t (bt t) k k = bt t k:=by unfold lkM;rw [if_neg (by omega)]
    rw [hold] at hck
    have hS:=lk_loop hL
    have HS:=qH hS
    have HL:=qH hL
    have HB:=qH hB
    obtain ⟨m,hm⟩ : ∃ m : Nat,k + n = m:=⟨_,rfl⟩
    have hml : m % key.size < key.size:=Nat.mod_lt _ (by omega)
    have hx:=bt_at key (m % key.size) hml
    have HX : Hid (bits .xor .u8 (bt t k) ((key[m % key.size]'hml).toNat : Int) = lkB key n t k):=qH (by rw [hx];unfold lkB;rw [hm])
    obtain ⟨r,hr⟩ : ∃ r : Nat,m % key.size = r:=⟨_,rfl⟩
    have hw1 : IntKind.i64.wrap ((k : Int) + (n : Int)) = (m : Int):=by rw [IntWalk.i64_in _ (by omega)];omega
    have hw2 : Int.tmod (m : Int) (key.size : Int) = (r : Int):=by rw [<- hr];rfl
    have hw3 : IntKind.i64.wrap (r : Int) = (r : Int):=IntWalk.i64_in _ (by omega)
    have hnz : ¬ (key.size : Int) = 0:=by omega
    have hne : ¬ key = ByteArray.empty:=fun h => by subst h;exact absurd hk1 (by decide)
    have hrl : r < key.size:=by omega
    have HX2 : Hid (bits .xor .u8 (bt t k) ((key[r]'hrl).toNat : Int) = lkB key n t k):=qH (by subst hr;exact HX.out)
    have hr2 : (0 : Int) <= (r : Int) /\ (r : Int) < (key.size : Int):=by omega
    clear hS hL hB hold hx hr hml HX
    have hm2 : 0 <= (m : Int):=by omega
    clear hm
    generalize bt t k = x at *
    go_wp2_with fail
    go_still_tail 15,(by kernel_rfl)
    change wpList _ _ _ _ _ wr.drew
    have hfk' : wr.drew.frozen? ⟨w.heap.size,k,none⟩ = false:=hfk
    have hck' : wr.drew.cell? ⟨w.heap.size,k,none⟩ = some (.int .u8 x):=hck
    have HSd:=qH (lk_loop HL.out.drew)
    have HBd : Hid (Below w.heap.size w (wr.drew.setCell ⟨w.heap.size,k,none⟩ (.int .u8 (lkB key n t k)))):=qH (HB.out.drew.setCell (Nat.le_refl _) _)
    have hgd : w.heap.size < (wr.drew.setCell ⟨w.heap.size,k,none⟩ (.int .u8 (lkB key n t k))).heap.size:=by simpa using hg
    clear hck hfk HS HL HB hg
    rw [HX2.out]
    generalize wr.drew = we at *
    generalize lkB key n t k = y at *
    go_wp2_with fail
    go_roundw
    case rel => exact ⟨k + 1,by omega,by go_num,HSd.out,HBd.out,hgd⟩
    case measure => simp [intOf];omega
  · have hcv:=conv_lk 95 9 5 Tryz.underlying95 Tryz.underlying5 Tryz.underlying9 (cap:=cap) hL (by omega)
    have HB:=qH hB
    clear hL hB
    go_wp2_with fail
    go_ret
    exact ⟨rfl,HB.out⟩
theorem turn_any (key : ByteArray) (p : Nat) (b : Int) (w : World) (hk1 : 1 <= key.size) (hk2 : key.size <= 16) (hp : p <= 100000000) :
 Calls Tryz.prog 109 #[.string key,.int .u64 p,.int .u8 b] w fun e w' => e = .returned (.int .u8 (bits .xor .u8 b (bt key (p % key.size)))) /\ w = w':=by
 have hin : 0 <= (p : Int) % (key.size : Int) /\ (p : Int) % (key.size : Int) < (key.size : Int):=⟨Int.emod_nonneg _ (by omega),Int.emod_lt_of_pos _ (by omega)⟩
 have HF:=qH (bt_at key (p % key.size) (Nat.mod_lt _ (by omega)))
 go_enter Tryz.func109,Tryz.ntmps109
 go_wp2_with fail
 go_ret
 exact ⟨ret_int (by rw [<- HF.out]),rfl⟩
theorem turned_any (key : ByteArray) (n : Nat) (t : ByteArray) (w : World) (hk1 : 1 <= key.size) (hk2 : key.size <= 16) (hn : n <= 1000000) (ht : t.size <= 1048576) :
 Calls Tryz.prog 108 #[.func (.func 109) #[.string key] #[],.int .u64 n,.string t] w fun e w' => e = .returned (.string (lkS key n t)) /\ Below w.heap.size w w':=by
 obtain ⟨i0,hi,hz0,hz1,hz2⟩:=info_parts infoU8
 go_enter Tryz.func108,Tryz.ntmps108
 go_wp2_with (at_make;refine wpList_make_full _ rfl (.tmp 10) (.tmp 10) 95 rfl w.heap.size 5 i0 (.int .u8 0) 1 Tryz.underlying95 hi hz0 hz1 .i64 .i64 _ _ t.size rfl rfl rfl rfl (by rw [hz2];omega) (by unfold maxLen;omega) (Nat.le_refl _) ?_;intro w1 hown1 hgrow1)
 have hb1 : Below w.heap.size w w1:=(Below.refl _ _).grown hgrow1 (Nat.le_refl _) (fun k hk => by cases hk)
 have hL1 : LkAt w1 w.heap.size t.size (lkM key n t (fun _ => 0) 0):=lk_made hown1
 have hg1 : w.heap.size < w1.heap.size:=(hown1.lt _ rfl).2
 clear hown1 hgrow1
 go_loopw [14] (fun i wr => ∃ k : Nat,k <= t.size /\ i = .int .i64 k /\ LkAt wr w.heap.size t.size (lkM key n t (fun _ => 0) k) /\ Below w.heap.size w wr /\ w.heap.size < wr.heap.size) (fun i _ => t.size - (intOf i).toNat)
 case atStart => exact ⟨0,Nat.zero_le _,rfl,hL1,hb1,hg1⟩
 case round =>
  obtain ⟨k,hk,rfl,hL,hB,hg⟩:=hrel
  clear hL1 hb1 hg1
  by_cases hlt : k < t.size
  · have hck:=hL.cell k hlt
    have hfk:=hL.free k hlt
    have hS:=lk_loop hL
    have HS:=qH hS
    have HL:=qH hL
    have HB:=qH hB
    have hsum : IntKind.u64.wrap ((n : Int) + (k : Int)) = ((n + k : Nat) : Int):=by rw [IntKind.wrap_u64];omega
    have hin : (k : Int) < (t.size : Int):=by omega
    have hx:=bt_at t k hlt
    have HX : Hid (bits .xor .u8 (((t[k]'hlt).toNat : Nat) : Int) (bt key ((n + k) % key.size)) = lkB key n t k):=qH (by rw [hx,Nat.add_comm];rfl)
    have hcall:=turn_any key (n + k) (((t[k]'hlt).toNat : Nat) : Int) wr hk1 hk2 (by omega)
    rw [HX.out,Int.natCast_add] at hcall
    have HCALL:=qH hcall
    clear hS hL hB hx hcall
    go_wp2_with fail
    refine HCALL.out.mono ?_
    rintro e w2 ⟨rfl,rfl⟩
    have HB2 : Hid (Below w.heap.size w (wr.setCell ⟨w.heap.size,k,none⟩ (.int .u8 (lkB key n t k)))):=qH (HB.out.setCell (Nat.le_refl _) _)
    have hg2 : w.heap.size < (wr.setCell ⟨w.heap.size,k,none⟩ (.int .u8 (lkB key n t k))).heap.size:=by simpa using hg
    generalize lkB key n t k = y at *
    go_wp2_with fail
    go_roundw
    case rel => exact ⟨k + 1,by omega,by go_num,HS.out,HB2.out,hg2⟩
    case measure => simp [intOf];omega
  · have hcv:=conv_lk 95 9 5 Tryz.underlying95 Tryz.underlying5 Tryz.underlying9 (cap:=t.size) hL (by omega)
    have HB:=qH hB
    clear hL hB
    go_wp2_with fail
    go_ret
    exact ⟨rfl,HB.out⟩
end Go.Proofs.YthkbcjnbmciolaaGreatDoor
