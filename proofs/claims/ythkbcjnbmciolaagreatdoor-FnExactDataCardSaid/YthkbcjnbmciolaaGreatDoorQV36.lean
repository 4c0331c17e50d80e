/- Used by the law. -/
import Derived.Deep.Slices
import Derived.DataReads
import Derived.Test.YthkbcjnbmciolaaGreatDoorQV35
set_option maxRecDepth 100000
set_option maxHeartbeats 16000000
namespace Go.Proofs.YthkbcjnbmciolaaGreatDoor
open Go.RowKit Go.PlainAid G MGet MGF IRow MNum MJoin
set_option linter.unusedVariables false
def badB (op none ckn mn gp fg fr : Bool) : Bool:=((((op && (none || ckn)) || (!op && mn)) || (gp && (op || none))) || !fg) || !fr
def bad2B (op on zz nu : Bool) : Bool:=(!on && !zz) || (on && (!op || !nu))
theorem core_eq : ∀ (lg lr op none ckn mn gp fg fr zz nu on : Bool),(gp = false -> fg = true) -> (zz = true -> fr = true) -> (fg = true -> lg = true) -> (fr = true -> lr = true) -> (none = true -> fg = true -> gp = false) →
 ((if op = true then !none && !ckn else !mn) && ((!gp || (!op && fg)) && (if on = true then op && (nu && fr) else zz))) = (lg && (lr && (!badB op none ckn mn gp fg fr && !bad2B op on zz nu))):=by decide
theorem fitB_small {g n m : Int} {l : List Ev} (h : fitB g n m l = true) : l.length <= 20:=by
 rcases Nat.eq_zero_or_pos l.length with h0 | h0
 · omega
 · have h1 : (l.length : Int) < n:=by
    by_cases hh : (l.length : Int) < n
    · exact hh
    · rw [fitB_long (by omega) hh] at h;cases h
   have h2 : okE g n m (l.getD 0 evD) = true:=by
    cases hh : okE g n m (l.getD 0 evD)
    · rw [fitB_bad h0 hh] at h;cases h
    · rfl
   unfold okE envB numsB manyB at h2
   simp only [Bool.and_eq_true,decide_eq_true_eq] at h2
   omega
theorem fitB_zero {c0 c1 c2 c3 : Int} {l : List Ev} (hz : zeroC c0 c1 c2 c3 = true) (h : fitB c0 c1 c2 l = true) : l.length = 0:=by
 rcases Nat.eq_zero_or_pos l.length with h0 | h0
 · exact h0
 · have h2 : okE c0 c1 c2 (l.getD 0 evD) = true:=by
    cases hh : okE c0 c1 c2 (l.getD 0 evD)
    · rw [fitB_bad h0 hh] at h;cases h
    · rfl
   unfold zeroC at hz
   unfold okE envB numsB at h2
   simp only [Bool.and_eq_true,decide_eq_true_eq] at h2 hz
   omega
theorem fitB_none {c0 c1 c2 : Int} {l : List Ev} (h : l.length = 0) : fitB c0 c1 c2 l = true:=by
 rw [List.eq_nil_of_length_eq_zero h];rfl
theorem vault_eq (ds dt : ByteArray) (c0 c1 c2 c3 : Int) (op : Bool) (ma : ByteArray) (no : Int) (on : Bool) (nd mn : Int) (ts : List Tm) (is : List Im) (gs rs : List Ev) :
 vaultB ds dt c0 c1 c2 c3 op ma no on nd mn ts is gs rs = (decide (ds.size + dt.size <= 3000) && (decide (dt = ⟨#[]⟩) && (decide (0 <= no /\ no <= 1000000) && (decide (gs.length <= 20) && (decide (rs.length <= 20) &&
  (!badB op (zeroC c0 c1 c2 c3) (checkI ma != c3) (!ma.toList.isEmpty) (decide ((gs.length : Int) > 0)) (fitB c0 c1 c2 gs) (fitB c0 c1 c2 rs) &&
  (!bad2B op on (decide (nd = 0 /\ mn = 0 /\ rs.length = 0)) (manyB nd mn) && (cleanB ds && sameB (bkOf ds) ⟨c0,c1,c2,c3,ts,is⟩)))))))):=by
 have hc:=core_eq (decide (gs.length <= 20)) (decide (rs.length <= 20)) op (zeroC c0 c1 c2 c3) (checkI ma != c3) (!ma.toList.isEmpty) (decide ((gs.length : Int) > 0)) (fitB c0 c1 c2 gs) (fitB c0 c1 c2 rs) (decide (nd = 0 /\ mn = 0 /\ rs.length = 0)) (manyB nd mn) on
  (fun h => fitB_none (by have:=of_decide_eq_false h;omega)) (fun h => fitB_none (of_decide_eq_true h).2.2) (fun h => decide_eq_true (fitB_small h)) (fun h => decide_eq_true (fitB_small h)) (fun h1 h2 => decide_eq_false (by have:=fitB_zero h1 h2;omega))
 have h1 : decide (checkI ma = c3) = !(checkI ma != c3):=by by_cases h : checkI ma = c3 <;> simp [h]
 have h2 : decide (ma = ⟨#[]⟩) = !!ma.toList.isEmpty:=by rw [empty_eqb,Bool.not_not]
 have h3 : decide (gs.length = 0) = !decide ((gs.length : Int) > 0):=by by_cases h : gs.length = 0 <;> simp [h] <;> omega
 unfold vaultB onDiskB timeB masterB gotB rekeyB
 rw [h1,h2,h3,hc]
 generalize decide (ds.size + dt.size <= 3000) = b0
 generalize decide (dt = ⟨#[]⟩) = b1
 generalize decide (0 <= no /\ no <= 1000000) = b2
 generalize cleanB ds = b3
 generalize sameB (bkOf ds) ⟨c0,c1,c2,c3,ts,is⟩ = b4
 generalize badB op (zeroC c0 c1 c2 c3) (checkI ma != c3) (!ma.toList.isEmpty) (decide ((gs.length : Int) > 0)) (fitB c0 c1 c2 gs) (fitB c0 c1 c2 rs) = b5
 generalize bad2B op on (decide (nd = 0 /\ mn = 0 /\ rs.length = 0)) (manyB nd mn) = b6
 generalize decide (gs.length <= 20) = b7
 generalize decide (rs.length <= 20) = b8
 cases b0 <;> cases b1 <;> cases b2 <;> cases b3 <;> cases b4 <;> simp
theorem specVaultRight_any (ds dt : ByteArray) (c0 c1 c2 c3 : Int) (op : Bool) (ma : ByteArray) (no : Int) (on : Bool) (nd mn : Int) (a1 : Option Addr) (n1 a3 : Nat) (a2 : Option Addr) (n2 a4 : Nat) (ts : List Tm) (is : List Im) (g1 : Option Addr) (gn g2 : Nat) (gs : List Ev) (r1 : Option Addr) (rn r2 : Nat) (rs : List Ev) (w : World) (h : VR w a1 n1 a3 a2 n2 a4 ts is g1 gn g2 gs r1 rn r2 rs) (hv : VG ds dt ma n1 n2 gn rn gs rs) :
 Calls Tryz.prog 17 #[.agg #[.string ds,.string dt,.int .i64 c0,.int .i64 c1,.int .i64 c2,.int .i64 c3,.slice a1 n1 a3,.slice a2 n2 a4,.bool op,.string ma,.slice g1 gn g2,.int .i64 no,.bool on,.int .i64 nd,.int .i64 mn,.slice r1 rn r2]] w fun e w' => e = .returned (.bool (vaultB ds dt c0 c1 c2 c3 op ma no on nd mn ts is gs rs)) /\ Below w.heap.size w w':=by
 have HR:=qH h
 have HV:=qH hv
 clear h hv
 have HGL : Hid (gs.length = gn):=qH HR.out.g.len
 have HRL : Hid (rs.length = rn):=qH HR.out.r.len
 have hmx : Tryz.prog.follows .mixedOrders = true:=by kernel_rfl
 obtain ⟨W,hW⟩ : ∃ W,W = w.alloc (.cells #[.string ds,.string dt,.int .i64 c0,.int .i64 c1,.int .i64 c2,.int .i64 c3,.slice a1 n1 a3,.slice a2 n2 a4,.bool op,.string ma,.slice g1 gn g2,.int .i64 no,.bool on,.int .i64 nd,.int .i64 mn,.slice r1 rn r2] 48):=⟨_,rfl⟩
 have HB0:=qH (show Below w.heap.size w W by rw [hW];exact (Below.refl _ _).alloc (Nat.le_refl _) _)
 have HX0:=qH (show BoxC W w.heap.size [.string ds,.string dt,.int .i64 c0,.int .i64 c1,.int .i64 c2,.int .i64 c3,.slice a1 n1 a3,.slice a2 n2 a4,.bool op,.string ma,.slice g1 gn g2,.int .i64 no,.bool on,.int .i64 nd,.int .i64 mn,.slice r1 rn r2] by rw [hW];exact BoxC.made _ _ _)
 obtain ⟨ans,hans⟩ : ∃ z,vaultB ds dt c0 c1 c2 c3 op ma no on nd mn ts is gs rs = z:=⟨_,rfl⟩
 obtain ⟨bd,hbd⟩ : ∃ z,badB op (zeroC c0 c1 c2 c3) (checkI ma != c3) (!ma.toList.isEmpty) (decide ((gn : Int) > 0)) (fitB c0 c1 c2 gs) (fitB c0 c1 c2 rs) = z:=⟨_,rfl⟩
 obtain ⟨b2,hb2⟩ : ∃ z,bad2B op on (decide (nd = 0 /\ mn = 0 /\ rn = 0)) (manyB nd mn) = z:=⟨_,rfl⟩
 have HVB:=qH (vault_eq ds dt c0 c1 c2 c3 op ma no on nd mn ts is gs rs)
 obtain ⟨cl,hcl⟩ : ∃ z,cleanB ds = z:=⟨_,rfl⟩
 obtain ⟨sm,hsm⟩ : ∃ z,sameB (bkOf ds) ⟨c0,c1,c2,c3,ts,is⟩ = z:=⟨_,rfl⟩
 have HVA : Hid (ans = (decide (ds.size + dt.size <= 3000) && (decide (dt = ⟨#[]⟩) && (decide (0 <= no /\ no <= 1000000) && (decide (gn <= 20) && (decide (rn <= 20) && (!bd && (!b2 && (cl && sm)))))))) ):=qH (by have:=HVB.out;rw [HGL.out,HRL.out,hbd,hb2,hcl,hsm,hans] at this;exact this)
 rw [hans]
 have HBD:=qH hbd
 have HB2:=qH hb2
 have HCL:=qH hcl
 have HSM:=qH hsm
 clear hans hbd hb2 hcl hsm HVB
 go_enter Tryz.func17,Tryz.ntmps17
 go_upto_region 1 with fail
 rw [<- hW]
 clear hW
 have y0:=HX0.out.cell 0 _ rfl
 have y1:=HX0.out.cell 1 _ rfl
 go_wp2_with fail
 clear y0 y1
 refine (specDiskRight_any ds dt W (by have:=HV.out.d;omega)).mono ?_
 rintro e w1 ⟨rfl,hb⟩
 have HX1:=qH (HX0.out.below hb)
 have HB1:=qH (HB0.out.trans (hb.mono HB0.out.size))
 clear hb HX0 HB0
 have HTM : Hid (∀ u,Calls Tryz.prog 42 #[.int .i64 no,.int .i64 0,.int .i64 1000000] u fun e w' => e = .returned (.bool (decide (0 <= no /\ no <= 1000000))) /\ u = w'):=qH (fun u => l02IsOk_any no 0 1000000 u)
 have y1:=HX1.out.cell 1 _ rfl
 have y10:=HX1.out.cell 10 _ rfl
 have y11:=HX1.out.cell 11 _ rfl
 have y15:=HX1.out.cell 15 _ rfl
 by_cases hd : ds.size + dt.size <= 3000
 rotate_left
 · rw [decide_eq_false hd]
   have HF : Hid (ans = false):=qH (by rw [HVA.out,decide_eq_false hd];rfl)
   clear hd
   go_wp2_with fail
   go_ret
   exact ⟨ret_bool HF.out.symm,HB1.out⟩
 rw [decide_eq_true hd]
 by_cases ht : dt = ⟨#[]⟩
 rotate_left
 · have HF : Hid (ans = false):=qH (by rw [HVA.out,decide_eq_false ht];simp)
   have he:=empty_no ht
   clear hd ht
   go_wp2_with fail
   go_ret
   exact ⟨ret_bool HF.out.symm,HB1.out⟩
 have HVA1 : Hid (ans = (decide (0 <= no /\ no <= 1000000) && (decide (gn <= 20) && (decide (rn <= 20) && (!bd && (!b2 && (cl && sm))))))):=qH (by rw [HVA.out,decide_eq_true hd,decide_eq_true ht];rfl)
 have HD3 : Hid (ds.size <= maxLen):=qH (by unfold maxLen;omega)
 clear HVA hd
 subst ht
 obtain ⟨nw,hnw⟩ : ∃ z,decide (0 <= no /\ no <= 1000000) = z:=⟨_,rfl⟩
 rw [hnw] at HVA1 HTM
 clear hnw
 cases nw with
 | false =>
  have HF : Hid (ans = false):=qH (by rw [HVA1.out];rfl)
  go_wp2_with (go_at_call 42;refine (HTM.out _).mono ?_;rintro e w2 ⟨rfl,rfl⟩)
  go_ret
  exact ⟨ret_bool HF.out.symm,HB1.out⟩
 | true =>
 by_cases hg : gn <= 20
 rotate_left
 · have HF : Hid (ans = false):=qH (by rw [HVA1.out,decide_eq_false hg];rfl)
   have hg2 : 20 < (gn : Int):=by omega
   clear hg
   go_wp2_with (go_at_call 42;refine (HTM.out _).mono ?_;rintro e w2 ⟨rfl,rfl⟩)
   go_ret
   exact ⟨ret_bool HF.out.symm,HB1.out⟩
 have hg2 : (gn : Int) <= 20:=by omega
 by_cases hr : rn <= 20
 rotate_left
 · have HF : Hid (ans = false):=qH (by rw [HVA1.out,decide_eq_true hg,decide_eq_false hr];rfl)
   have hr2 : 20 < (rn : Int):=by omega
   clear hg hr
   go_wp2_with (go_at_call 42;refine (HTM.out _).mono ?_;rintro e w2 ⟨rfl,rfl⟩)
   go_ret
   exact ⟨ret_bool HF.out.symm,HB1.out⟩
 have hr2 : (rn : Int) <= 20:=by omega
 have HVA2 : Hid (ans = (!bd && (!b2 && (cl && sm)))):=qH (by rw [HVA1.out,decide_eq_true hg,decide_eq_true hr];rfl)
 clear HVA1 hg hr
 obtain ⟨none',hno⟩ : ∃ z,zeroC c0 c1 c2 c3 = z:=⟨_,rfl⟩
 have heq : ∀ W : World,(binOp .eql 39 (.agg #[.int .i64 c0,.int .i64 c1,.int .i64 c2,.int .i64 c3]) (.agg #[.int .i64 0,.int .i64 0,.int .i64 0,.int .i64 0])).run Tryz.prog W = .ok (.bool none') W:=fun W => by rw [<- hno];exact eql_conf2 c0 c1 c2 c3 0 0 0 0 W
 rw [hno] at HBD
 clear hno
 have y2:=HX1.out.cell 2 _ rfl
 have y3:=HX1.out.cell 3 _ rfl
 have y4:=HX1.out.cell 4 _ rfl
 have y5:=HX1.out.cell 5 _ rfl
 go_upto_region 4 with (go_at_call 42;refine (HTM.out _).mono ?_;rintro e w2 ⟨rfl,rfl⟩)
 clear y1 y2 y3 y4 y5 y10 y11 y15 heq HTM hg2 hr2
 obtain ⟨S,hS⟩ : ∃ S : World -> Prop,S = fun u => Below w.heap.size w u /\ BoxC u w.heap.size [.string ds,.string ⟨#[]⟩,.int .i64 c0,.int .i64 c1,.int .i64 c2,.int .i64 c3,.slice a1 n1 a3,.slice a2 n2 a4,.bool op,.string ma,.slice g1 gn g2,.int .i64 no,.bool on,.int .i64 nd,.int .i64 mn,.slice r1 rn r2]:=⟨_,rfl⟩
 have HSX : Hid (∀ u,S u -> Below w.heap.size w u /\ BoxC u w.heap.size [.string ds,.string ⟨#[]⟩,.int .i64 c0,.int .i64 c1,.int .i64 c2,.int .i64 c3,.slice a1 n1 a3,.slice a2 n2 a4,.bool op,.string ma,.slice g1 gn g2,.int .i64 no,.bool on,.int .i64 nd,.int .i64 mn,.slice r1 rn r2]):=qH (fun u hu => by rw [hS] at hu;exact hu)
 have HKP : Hid (∀ u u2,S u -> Below u.heap.size u u2 -> S u2):=qH (fun u u2 hu hb => by
  rw [hS] at hu ⊢
  exact ⟨hu.1.trans (hb.mono hu.1.size),hu.2.below hb⟩)
 have HS1 : Hid (S w1):=qH (by rw [hS];exact ⟨HB1.out,HX1.out⟩)
 clear hS HX1 HB1
 obtain ⟨ckn,hck⟩ : ∃ z,(checkI ma != c3) = z:=⟨_,rfl⟩
 obtain ⟨mne,hme⟩ : ∃ z,(!ma.toList.isEmpty) = z:=⟨_,rfl⟩
 obtain ⟨gp,hgp⟩ : ∃ z,decide ((gn : Int) > 0) = z:=⟨_,rfl⟩
 obtain ⟨fg,hfg⟩ : ∃ z,fitB c0 c1 c2 gs = z:=⟨_,rfl⟩
 obtain ⟨fr,hfr⟩ : ∃ z,fitB c0 c1 c2 rs = z:=⟨_,rfl⟩
 rw [hck,hme,hgp,hfg,hfr] at HBD
 have HCK:=qH hck
 have HME:=qH hme
 have HGP:=qH hgp
 have HCC : Hid (∀ u,S u -> Calls Tryz.prog 18 #[.string ma] u fun e u2 => e = .returned (.int .i64 (checkI ma)) /\ S u2):=qH (fun u hu => (specCheckOf_any ma u HV.out.m).mono (by rintro e u2 ⟨rfl,rfl⟩;exact ⟨rfl,hu⟩))
 have HFG : Hid (∀ u,S u -> Calls Tryz.prog 43 #[.agg #[.int .i64 c0,.int .i64 c1,.int .i64 c2,.int .i64 c3],.slice g1 gn g2] u fun e u2 => e = .returned (.bool fg) /\ S u2):=qH (fun u hu => (l09Fit_any c0 c1 c2 c3 g1 gn g2 gs u (SR.below HR.out.g (HSX.out u hu).1) HV.out.n.2.2.1 HV.out.g).mono (by rintro e u2 ⟨rfl,hb⟩;exact ⟨by rw [hfg],HKP.out u u2 hu hb⟩))
 have HFR : Hid (∀ u,S u -> Calls Tryz.prog 43 #[.agg #[.int .i64 c0,.int .i64 c1,.int .i64 c2,.int .i64 c3],.slice r1 rn r2] u fun e u2 => e = .returned (.bool fr) /\ S u2):=qH (fun u hu => (l09Fit_any c0 c1 c2 c3 r1 rn r2 rs u (SR.below HR.out.r (HSX.out u hu).1) HV.out.n.2.2.2 HV.out.r).mono (by rintro e u2 ⟨rfl,hb⟩;exact ⟨by rw [hfr],HKP.out u u2 hu hb⟩))
 clear hck hme hgp hfg hfr
 go_cut [96] from 6 to 96 (fun v u => v = .bool bd /\ S u)
 case first =>
  have HS0 : Hid (S w1.drew):=qH (HKP.out w1 _ HS1.out (Below.refl _ _).drew)
  cases op with
  | false =>
   refine HeldZ.region hmx S (by kernel_rfl) HS0.out ?_
   with_reducible refine HeldZ.value (v:=.pointer (some ⟨w.heap.size,8,none⟩)) rfl (fun u hu => by go_simp) ?_
   simp only [pS,List.set]
   with_reducible refine HeldZ.value (v:=.bool false) rfl (fun u hu => by obtain ⟨_,hx⟩:=HSX.out u hu;have y8:=hx.cell 8 _ rfl;go_simp) ?_
   simp only [pS,List.set]
   with_reducible refine HeldZ.value (v:=.bool false) rfl (fun u hu => by go_simp) ?_
   simp only [pS,List.set]
   iterate 11 (with_reducible refine HeldZ.no rfl ?_; simp only [pS, List.set])
   iterate 2 (with_reducible refine HeldZ.value (v:=.bool false) rfl (fun u hu => by go_simp) ?_; simp only [pS, List.set])
   with_reducible refine HeldZ.value (v:=.pointer (some ⟨w.heap.size,8,none⟩)) rfl (fun u hu => by go_simp) ?_
   simp only [pS,List.set]
   with_reducible refine HeldZ.value (v:=.bool false) rfl (fun u hu => by obtain ⟨_,hx⟩:=HSX.out u hu;have y8:=hx.cell 8 _ rfl;go_simp) ?_
   simp only [pS,List.set]
   iterate 2 (with_reducible refine HeldZ.value (v:=.bool true) rfl (fun u hu => by go_simp) ?_; simp only [pS, List.set])
   with_reducible refine HeldZ.value (v:=.pointer (some ⟨w.heap.size,9,none⟩)) rfl (fun u hu => by go_simp) ?_
   simp only [pS,List.set]
   with_reducible refine HeldZ.value (v:=.string ma) rfl (fun u hu => by obtain ⟨_,hx⟩:=HSX.out u hu;have y9:=hx.cell 9 _ rfl;go_simp) ?_
   simp only [pS,List.set]
   with_reducible refine HeldZ.value (v:=.bool (!ma.toList.isEmpty)) rfl (fun u hu => by go_simp) ?_
   simp only [pS,List.set]
   rw [HME.out]
   clear HME
   cases mne with
   | false =>
    iterate 3 (with_reducible refine HeldZ.value (v:=.bool false) rfl (fun u hu => by go_simp) ?_; simp only [pS, List.set])
    with_reducible refine HeldZ.value (v:=.pointer (some ⟨w.heap.size,10,none⟩)) rfl (fun u hu => by go_simp) ?_
    simp only [pS,List.set]
    with_reducible refine HeldZ.value (v:=.slice g1 gn g2) rfl (fun u hu => by obtain ⟨_,hx⟩:=HSX.out u hu;have y10:=hx.cell 10 _ rfl;go_simp) ?_
    simp only [pS,List.set]
    with_reducible refine HeldZ.value (v:=.int .i64 (gn : Int)) rfl (fun u hu => by go_simp) ?_
    simp only [pS,List.set]
    with_reducible refine HeldZ.value (v:=.bool (decide ((gn : Int) > 0))) rfl (fun u hu => by go_simp) ?_
    simp only [pS,List.set]
    rw [HGP.out]
    clear HGP
    cases gp with
    | false =>
     with_reducible refine HeldZ.value (v:=.bool false) rfl (fun u hu => by go_simp) ?_
     simp only [pS,List.set]
     iterate 5 (with_reducible refine HeldZ.no rfl ?_; simp only [pS, List.set])
     iterate 3 (with_reducible refine HeldZ.value (v:=.bool false) rfl (fun u hu => by go_simp) ?_; simp only [pS, List.set])
     iterate 2 (with_reducible refine HeldZ.value (v:=.pointer (some ⟨w.heap.size,2,none⟩)) rfl (fun u hu => by go_simp) ?_; simp only [pS, List.set])
     with_reducible refine HeldZ.value (v:=.agg #[.int .i64 c0,.int .i64 c1,.int .i64 c2,.int .i64 c3]) rfl (fun u hu => by obtain ⟨_,hx⟩:=HSX.out u hu;have y2:=hx.cell 2 _ rfl;have y3:=hx.cell 3 _ rfl;have y4:=hx.cell 4 _ rfl;have y5:=hx.cell 5 _ rfl;go_simp) ?_
     simp only [pS,List.set]
     with_reducible refine HeldZ.value (v:=.pointer (some ⟨w.heap.size,10,none⟩)) rfl (fun u hu => by go_simp) ?_
     simp only [pS,List.set]
     with_reducible refine HeldZ.value (v:=.slice g1 gn g2) rfl (fun u hu => by obtain ⟨_,hx⟩:=HSX.out u hu;have y10:=hx.cell 10 _ rfl;go_simp) ?_
     simp only [pS,List.set]
     with_reducible refine HeldZ.call (v:=.bool fg) (f:=43) (args:=#[.agg #[.int .i64 c0,.int .i64 c1,.int .i64 c2,.int .i64 c3],.slice g1 gn g2]) rfl (fun u hu => by go_simp) (fun u hu => Calls.mono (HFG.out u hu) (by rintro e u2 ⟨rfl,hs⟩;exact ⟨rfl,hs⟩)) ?_
     simp only [pS,List.set]
     cases fg with
     | false =>
      iterate 3 (with_reducible refine HeldZ.value (v:=.bool true) rfl (fun u hu => by go_simp) ?_; simp only [pS, List.set])
      iterate 8 (with_reducible refine HeldZ.no rfl ?_; simp only [pS, List.set])
      with_reducible refine HeldZ.value (v:=.bool true) rfl (fun u hu => by go_simp) ?_
      simp only [pS,List.set]
      refine HeldZ.nil ?_
      intro u hu
      go_wp2_with fail
      go_meet
      case rel => exact ⟨congrArg Value.bool HBD.out,hu⟩
     | true =>
      iterate 3 (with_reducible refine HeldZ.value (v:=.bool false) rfl (fun u hu => by go_simp) ?_; simp only [pS, List.set])
      iterate 2 (with_reducible refine HeldZ.value (v:=.pointer (some ⟨w.heap.size,2,none⟩)) rfl (fun u hu => by go_simp) ?_; simp only [pS, List.set])
      with_reducible refine HeldZ.value (v:=.agg #[.int .i64 c0,.int .i64 c1,.int .i64 c2,.int .i64 c3]) rfl (fun u hu => by obtain ⟨_,hx⟩:=HSX.out u hu;have y2:=hx.cell 2 _ rfl;have y3:=hx.cell 3 _ rfl;have y4:=hx.cell 4 _ rfl;have y5:=hx.cell 5 _ rfl;go_simp) ?_
      simp only [pS,List.set]
      with_reducible refine HeldZ.value (v:=.pointer (some ⟨w.heap.size,12,none⟩)) rfl (fun u hu => by go_simp) ?_
      simp only [pS,List.set]
      with_reducible refine HeldZ.value (v:=.pointer (some ⟨w.heap.size,15,none⟩)) rfl (fun u hu => by go_simp) ?_
      simp only [pS,List.set]
      with_reducible refine HeldZ.value (v:=.slice r1 rn r2) rfl (fun u hu => by obtain ⟨_,hx⟩:=HSX.out u hu;have y15:=hx.cell 15 _ rfl;go_simp) ?_
      simp only [pS,List.set]
      with_reducible refine HeldZ.call (v:=.bool fr) (f:=43) (args:=#[.agg #[.int .i64 c0,.int .i64 c1,.int .i64 c2,.int .i64 c3],.slice r1 rn r2]) rfl (fun u hu => by go_simp) (fun u hu => Calls.mono (HFR.out u hu) (by rintro e u2 ⟨rfl,hs⟩;exact ⟨rfl,hs⟩)) ?_
      simp only [pS,List.set]
      cases fr with
      | false =>
       iterate 2 (with_reducible refine HeldZ.value (v:=.bool true) rfl (fun u hu => by go_simp) ?_; simp only [pS, List.set])
       refine HeldZ.nil ?_
       intro u hu
       go_wp2_with fail
       go_meet
       case rel => exact ⟨congrArg Value.bool HBD.out,hu⟩
      | true =>
       iterate 2 (with_reducible refine HeldZ.value (v:=.bool false) rfl (fun u hu => by go_simp) ?_; simp only [pS, List.set])
       refine HeldZ.nil ?_
       intro u hu
       go_wp2_with fail
       go_meet
       case rel => exact ⟨congrArg Value.bool HBD.out,hu⟩
    | true =>
     with_reducible refine HeldZ.value (v:=.bool true) rfl (fun u hu => by go_simp) ?_
     simp only [pS,List.set]
     with_reducible refine HeldZ.value (v:=.pointer (some ⟨w.heap.size,8,none⟩)) rfl (fun u hu => by go_simp) ?_
     simp only [pS,List.set]
     with_reducible refine HeldZ.value (v:=.bool false) rfl (fun u hu => by obtain ⟨_,hx⟩:=HSX.out u hu;have y8:=hx.cell 8 _ rfl;go_simp) ?_
     simp only [pS,List.set]
     with_reducible refine HeldZ.value (v:=.bool false) rfl (fun u hu => by go_simp) ?_
     simp only [pS,List.set]
     cases none' with
     | false =>
      iterate 5 (with_reducible refine HeldZ.value (v:=.bool false) rfl (fun u hu => by go_simp) ?_; simp only [pS, List.set])
      iterate 2 (with_reducible refine HeldZ.value (v:=.pointer (some ⟨w.heap.size,2,none⟩)) rfl (fun u hu => by go_simp) ?_; simp only [pS, List.set])
      with_reducible refine HeldZ.value (v:=.agg #[.int .i64 c0,.int .i64 c1,.int .i64 c2,.int .i64 c3]) rfl (fun u hu => by obtain ⟨_,hx⟩:=HSX.out u hu;have y2:=hx.cell 2 _ rfl;have y3:=hx.cell 3 _ rfl;have y4:=hx.cell 4 _ rfl;have y5:=hx.cell 5 _ rfl;go_simp) ?_
      simp only [pS,List.set]
      with_reducible refine HeldZ.value (v:=.pointer (some ⟨w.heap.size,10,none⟩)) rfl (fun u hu => by go_simp) ?_
      simp only [pS,List.set]
      with_reducible refine HeldZ.value (v:=.slice g1 gn g2) rfl (fun u hu => by obtain ⟨_,hx⟩:=HSX.out u hu;have y10:=hx.cell 10 _ rfl;go_simp) ?_
      simp only [pS,List.set]
      with_reducible refine HeldZ.call (v:=.bool fg) (f:=43) (args:=#[.agg #[.int .i64 c0,.int .i64 c1,.int .i64 c2,.int .i64 c3],.slice g1 gn g2]) rfl (fun u hu => by go_simp) (fun u hu => Calls.mono (HFG.out u hu) (by rintro e u2 ⟨rfl,hs⟩;exact ⟨rfl,hs⟩)) ?_
      simp only [pS,List.set]
      cases fg with
      | false =>
       iterate 3 (with_reducible refine HeldZ.value (v:=.bool true) rfl (fun u hu => by go_simp) ?_; simp only [pS, List.set])
       iterate 8 (with_reducible refine HeldZ.no rfl ?_; simp only [pS, List.set])
       with_reducible refine HeldZ.value (v:=.bool true) rfl (fun u hu => by go_simp) ?_
       simp only [pS,List.set]
       refine HeldZ.nil ?_
       intro u hu
       go_wp2_with fail
       go_meet
       case rel => exact ⟨congrArg Value.bool HBD.out,hu⟩
      | true =>
       iterate 3 (with_reducible refine HeldZ.value (v:=.bool false) rfl (fun u hu => by go_simp) ?_; simp only [pS, List.set])
       iterate 2 (with_reducible refine HeldZ.value (v:=.pointer (some ⟨w.heap.size,2,none⟩)) rfl (fun u hu => by go_simp) ?_; simp only [pS, List.set])
       with_reducible refine HeldZ.value (v:=.agg #[.int .i64 c0,.int .i64 c1,.int .i64 c2,.int .i64 c3]) rfl (fun u hu => by obtain ⟨_,hx⟩:=HSX.out u hu;have y2:=hx.cell 2 _ rfl;have y3:=hx.cell 3 _ rfl;have y4:=hx.cell 4 _ rfl;have y5:=hx.cell 5 _ rfl;go_simp) ?_
       simp only [pS,List.set]
       with_reducible refine HeldZ.value (v:=.pointer (some ⟨w.heap.size,12,none⟩)) rfl (fun u hu => by go_simp) ?_
       simp only [pS,List.set]
       with_reducible refine HeldZ.value (v:=.pointer (some ⟨w.heap.size,15,none⟩)) rfl (fun u hu => by go_simp) ?_
       simp only [pS,List.set]
       with_reducible refine HeldZ.value (v:=.slice r1 rn r2) rfl (fun u hu => by obtain ⟨_,hx⟩:=HSX.out u hu;have y15:=hx.cell 15 _ rfl;go_simp) ?_
       simp only [pS,List.set]
       with_reducible refine HeldZ.call (v:=.bool fr) (f:=43) (args:=#[.agg #[.int .i64 c0,.int .i64 c1,.int .i64 c2,.int .i64 c3],.slice r1 rn r2]) rfl (fun u hu => by go_simp) (fun u hu => Calls.mono (HFR.out u hu) (by rintro e u2 ⟨rfl,hs⟩;exact ⟨rfl,hs⟩)) ?_
       simp only [pS,List.set]
       cases fr with
       | false =>
        iterate 2 (with_reducible refine HeldZ.value (v:=.bool true) rfl (fun u hu => by go_simp) ?_; simp only [pS, List.set])
        refine HeldZ.nil ?_
        intro u hu
        go_wp2_with fail
        go_meet
        case rel => exact ⟨congrArg Value.bool HBD.out,hu⟩
       | true =>
        iterate 2 (with_reducible refine HeldZ.value (v:=.bool false) rfl (fun u hu => by go_simp) ?_; simp only [pS, List.set])
        refine HeldZ.nil ?_
        intro u hu
        go_wp2_with fail
        go_meet
        case rel => exact ⟨congrArg Value.bool HBD.out,hu⟩
     | true =>
      iterate 5 (with_reducible refine HeldZ.value (v:=.bool true) rfl (fun u hu => by go_simp) ?_; simp only [pS, List.set])
      iterate 7 (with_reducible refine HeldZ.no rfl ?_; simp only [pS, List.set])
      iterate 2 (with_reducible refine HeldZ.value (v:=.bool true) rfl (fun u hu => by go_simp) ?_; simp only [pS, List.set])
      iterate 8 (with_reducible refine HeldZ.no rfl ?_; simp only [pS, List.set])
      with_reducible refine HeldZ.value (v:=.bool true) rfl (fun u hu => by go_simp) ?_
      simp only [pS,List.set]
      refine HeldZ.nil ?_
      intro u hu
      go_wp2_with fail
      go_meet
      case rel => exact ⟨congrArg Value.bool HBD.out,hu⟩
   | true =>
    iterate 3 (with_reducible refine HeldZ.value (v:=.bool true) rfl (fun u hu => by go_simp) ?_; simp only [pS, List.set])
    iterate 11 (with_reducible refine HeldZ.no rfl ?_; simp only [pS, List.set])
    iterate 2 (with_reducible refine HeldZ.value (v:=.bool true) rfl (fun u hu => by go_simp) ?_; simp only [pS, List.set])
    iterate 7 (with_reducible refine HeldZ.no rfl ?_; simp only [pS, List.set])
    iterate 2 (with_reducible refine HeldZ.value (v:=.bool true) rfl (fun u hu => by go_simp) ?_; simp only [pS, List.set])
    iterate 8 (with_reducible refine HeldZ.no rfl ?_; simp only [pS, List.set])
    with_reducible refine HeldZ.value (v:=.bool true) rfl (fun u hu => by go_simp) ?_
    simp only [pS,List.set]
    refine HeldZ.nil ?_
    intro u hu
    go_wp2_with fail
    go_meet
    case rel => exact ⟨congrArg Value.bool HBD.out,hu⟩
  | true =>
   refine HeldZ.region hmx S (by kernel_rfl) HS0.out ?_
   with_reducible refine HeldZ.value (v:=.pointer (some ⟨w.heap.size,8,none⟩)) rfl (fun u hu => by go_simp) ?_
   simp only [pS,List.set]
   with_reducible refine HeldZ.value (v:=.bool true) rfl (fun u hu => by obtain ⟨_,hx⟩:=HSX.out u hu;have y8:=hx.cell 8 _ rfl;go_simp) ?_
   simp only [pS,List.set]
   with_reducible refine HeldZ.value (v:=.bool true) rfl (fun u hu => by go_simp) ?_
   simp only [pS,List.set]
   cases none' with
   | false =>
    iterate 2 (with_reducible refine HeldZ.value (v:=.bool false) rfl (fun u hu => by go_simp) ?_; simp only [pS, List.set])
    with_reducible refine HeldZ.value (v:=.pointer (some ⟨w.heap.size,9,none⟩)) rfl (fun u hu => by go_simp) ?_
    simp only [pS,List.set]
    with_reducible refine HeldZ.value (v:=.string ma) rfl (fun u hu => by obtain ⟨_,hx⟩:=HSX.out u hu;have y9:=hx.cell 9 _ rfl;go_simp) ?_
    simp only [pS,List.set]
    with_reducible refine HeldZ.call (v:=.int .i64 (checkI ma)) (f:=18) (args:=#[.string ma]) rfl (fun u hu => by go_simp) (fun u hu => Calls.mono (HCC.out u hu) (by rintro e u2 ⟨rfl,hs⟩;exact ⟨rfl,hs⟩)) ?_
    simp only [pS,List.set]
    iterate 2 (with_reducible refine HeldZ.value (v:=.pointer (some ⟨w.heap.size,2,none⟩)) rfl (fun u hu => by go_simp) ?_; simp only [pS, List.set])
    with_reducible refine HeldZ.value (v:=.pointer (some ⟨w.heap.size,5,none⟩)) rfl (fun u hu => by go_simp) ?_
    simp only [pS,List.set]
    with_reducible refine HeldZ.value (v:=.int .i64 c3) rfl (fun u hu => by obtain ⟨_,hx⟩:=HSX.out u hu;have y5:=hx.cell 5 _ rfl;go_simp) ?_
    simp only [pS,List.set]
    with_reducible refine HeldZ.value (v:=.bool (checkI ma != c3)) rfl (fun u hu => by go_simp) ?_
    simp only [pS,List.set]
    rw [HCK.out]
    clear HCK
    cases ckn with
    | false =>
     iterate 3 (with_reducible refine HeldZ.value (v:=.bool false) rfl (fun u hu => by go_simp) ?_; simp only [pS, List.set])
     with_reducible refine HeldZ.value (v:=.pointer (some ⟨w.heap.size,8,none⟩)) rfl (fun u hu => by go_simp) ?_
     simp only [pS,List.set]
     with_reducible refine HeldZ.value (v:=.bool true) rfl (fun u hu => by obtain ⟨_,hx⟩:=HSX.out u hu;have y8:=hx.cell 8 _ rfl;go_simp) ?_
     simp only [pS,List.set]
     iterate 2 (with_reducible refine HeldZ.value (v:=.bool false) rfl (fun u hu => by go_simp) ?_; simp only [pS, List.set])
     iterate 3 (with_reducible refine HeldZ.no rfl ?_; simp only [pS, List.set])
     iterate 3 (with_reducible refine HeldZ.value (v:=.bool false) rfl (fun u hu => by go_simp) ?_; simp only [pS, List.set])
     with_reducible refine HeldZ.value (v:=.pointer (some ⟨w.heap.size,10,none⟩)) rfl (fun u hu => by go_simp) ?_
     simp only [pS,List.set]
     with_reducible refine HeldZ.value (v:=.slice g1 gn g2) rfl (fun u hu => by obtain ⟨_,hx⟩:=HSX.out u hu;have y10:=hx.cell 10 _ rfl;go_simp) ?_
     simp only [pS,List.set]
     with_reducible refine HeldZ.value (v:=.int .i64 (gn : Int)) rfl (fun u hu => by go_simp) ?_
     simp only [pS,List.set]
     with_reducible refine HeldZ.value (v:=.bool (decide ((gn : Int) > 0))) rfl (fun u hu => by go_simp) ?_
     simp only [pS,List.set]
     rw [HGP.out]
     clear HGP
     cases gp with
     | false =>
      with_reducible refine HeldZ.value (v:=.bool false) rfl (fun u hu => by go_simp) ?_
      simp only [pS,List.set]
      iterate 5 (with_reducible refine HeldZ.no rfl ?_; simp only [pS, List.set])
      iterate 3 (with_reducible refine HeldZ.value (v:=.bool false) rfl (fun u hu => by go_simp) ?_; simp only [pS, List.set])
      iterate 2 (with_reducible refine HeldZ.value (v:=.pointer (some ⟨w.heap.size,2,none⟩)) rfl (fun u hu => by go_simp) ?_; simp only [pS, List.set])
      with_reducible refine HeldZ.value (v:=.agg #[.int .i64 c0,.int .i64 c1,.int .i64 c2,.int .i64 c3]) rfl (fun u hu => by obtain ⟨_,hx⟩:=HSX.out u hu;have y2:=hx.cell 2 _ rfl;have y3:=hx.cell 3 _ rfl;have y4:=hx.cell 4 _ rfl;have y5:=hx.cell 5 _ rfl;go_simp) ?_
      simp only [pS,List.set]
      with_reducible refine HeldZ.value (v:=.pointer (some ⟨w.heap.size,10,none⟩)) rfl (fun u hu => by go_simp) ?_
      simp only [pS,List.set]
      with_reducible refine HeldZ.value (v:=.slice g1 gn g2) rfl (fun u hu => by obtain ⟨_,hx⟩:=HSX.out u hu;have y10:=hx.cell 10 _ rfl;go_simp) ?_
      simp only [pS,List.set]
      with_reducible refine HeldZ.call (v:=.bool fg) (f:=43) (args:=#[.agg #[.int .i64 c0,.int .i64 c1,.int .i64 c2,.int .i64 c3],.slice g1 gn g2]) rfl (fun u hu => by go_simp) (fun u hu => Calls.mono (HFG.out u hu) (by rintro e u2 ⟨rfl,hs⟩;exact ⟨rfl,hs⟩)) ?_
      simp only [pS,List.set]
      cases fg with
      | false =>
       iterate 3 (with_reducible refine HeldZ.value (v:=.bool true) rfl (fun u hu => by go_simp) ?_; simp only [pS, List.set])
       iterate 8 (with_reducible refine HeldZ.no rfl ?_; simp only [pS, List.set])
       with_reducible refine HeldZ.value (v:=.bool true) rfl (fun u hu => by go_simp) ?_
       simp only [pS,List.set]
       refine HeldZ.nil ?_
       intro u hu
       go_wp2_with fail
       go_meet
       case rel => exact ⟨congrArg Value.bool HBD.out,hu⟩
      | true =>
       iterate 3 (with_reducible refine HeldZ.value (v:=.bool false) rfl (fun u hu => by go_simp) ?_; simp only [pS, List.set])
       iterate 2 (with_reducible refine HeldZ.value (v:=.pointer (some ⟨w.heap.size,2,none⟩)) rfl (fun u hu => by go_simp) ?_; simp only [pS, List.set])
       with_reducible refine HeldZ.value (v:=.agg #[.int .i64 c0,.int .i64 c1,.int .i64 c2,.int .i64 c3]) rfl (fun u hu => by obtain ⟨_,hx⟩:=HSX.out u hu;have y2:=hx.cell 2 _ rfl;have y3:=hx.cell 3 _ rfl;have y4:=hx.cell 4 _ rfl;have y5:=hx.cell 5 _ rfl;go_simp) ?_
       simp only [pS,List.set]
       with_reducible refine HeldZ.value (v:=.pointer (some ⟨w.heap.size,12,none⟩)) rfl (fun u hu => by go_simp) ?_
       simp only [pS,List.set]
       with_reducible refine HeldZ.value (v:=.pointer (some ⟨w.heap.size,15,none⟩)) rfl (fun u hu => by go_simp) ?_
       simp only [pS,List.set]
       with_reducible refine HeldZ.value (v:=.slice r1 rn r2) rfl (fun u hu => by obtain ⟨_,hx⟩:=HSX.out u hu;have y15:=hx.cell 15 _ rfl;go_simp) ?_
       simp only [pS,List.set]
       with_reducible refine HeldZ.call (v:=.bool fr) (f:=43) (args:=#[.agg #[.int .i64 c0,.int .i64 c1,.int .i64 c2,.int .i64 c3],.slice r1 rn r2]) rfl (fun u hu => by go_simp) (fun u hu => Calls.mono (HFR.out u hu) (by rintro e u2 ⟨rfl,hs⟩;exact ⟨rfl,hs⟩)) ?_
       simp only [pS,List.set]
       cases fr with
       | false =>
        iterate 2 (with_reducible refine HeldZ.value (v:=.bool true) rfl (fun u hu => by go_simp) ?_; simp only [pS, List.set])
        refine HeldZ.nil ?_
        intro u hu
        go_wp2_with fail
        go_meet
        case rel => exact ⟨congrArg Value.bool HBD.out,hu⟩
       | true =>
        iterate 2 (with_reducible refine HeldZ.value (v:=.bool false) rfl (fun u hu => by go_simp) ?_; simp only [pS, List.set])
        refine HeldZ.nil ?_
        intro u hu
        go_wp2_with fail
        go_meet
        case rel => exact ⟨congrArg Value.bool HBD.out,hu⟩
     | true =>
      with_reducible refine HeldZ.value (v:=.bool true) rfl (fun u hu => by go_simp) ?_
      simp only [pS,List.set]
      with_reducible refine HeldZ.value (v:=.pointer (some ⟨w.heap.size,8,none⟩)) rfl (fun u hu => by go_simp) ?_
      simp only [pS,List.set]
      with_reducible refine HeldZ.value (v:=.bool true) rfl (fun u hu => by obtain ⟨_,hx⟩:=HSX.out u hu;have y8:=hx.cell 8 _ rfl;go_simp) ?_
      simp only [pS,List.set]
      with_reducible refine HeldZ.value (v:=.bool true) rfl (fun u hu => by go_simp) ?_
      simp only [pS,List.set]
      with_reducible refine HeldZ.no rfl ?_
      simp only [pS,List.set]
      iterate 4 (with_reducible refine HeldZ.value (v:=.bool true) rfl (fun u hu => by go_simp) ?_; simp only [pS, List.set])
      iterate 7 (with_reducible refine HeldZ.no rfl ?_; simp only [pS, List.set])
      iterate 2 (with_reducible refine HeldZ.value (v:=.bool true) rfl (fun u hu => by go_simp) ?_; simp only [pS, List.set])
      iterate 8 (with_reducible refine HeldZ.no rfl ?_; simp only [pS, List.set])
      with_reducible refine HeldZ.value (v:=.bool true) rfl (fun u hu => by go_simp) ?_
      simp only [pS,List.set]
      refine HeldZ.nil ?_
      intro u hu
      go_wp2_with fail
      go_meet
      case rel => exact ⟨congrArg Value.bool HBD.out,hu⟩
    | true =>
     iterate 3 (with_reducible refine HeldZ.value (v:=.bool true) rfl (fun u hu => by go_simp) ?_; simp only [pS, List.set])
     iterate 8 (with_reducible refine HeldZ.no rfl ?_; simp only [pS, List.set])
     iterate 2 (with_reducible refine HeldZ.value (v:=.bool true) rfl (fun u hu => by go_simp) ?_; simp only [pS, List.set])
     iterate 11 (with_reducible refine HeldZ.no rfl ?_; simp only [pS, List.set])
     iterate 2 (with_reducible refine HeldZ.value (v:=.bool true) rfl (fun u hu => by go_simp) ?_; simp only [pS, List.set])
     iterate 7 (with_reducible refine HeldZ.no rfl ?_; simp only [pS, List.set])
     iterate 2 (with_reducible refine HeldZ.value (v:=.bool true) rfl (fun u hu => by go_simp) ?_; simp only [pS, List.set])
     iterate 8 (with_reducible refine HeldZ.no rfl ?_; simp only [pS, List.set])
     with_reducible refine HeldZ.value (v:=.bool true) rfl (fun u hu => by go_simp) ?_
     simp only [pS,List.set]
     refine HeldZ.nil ?_
     intro u hu
     go_wp2_with fail
     go_meet
     case rel => exact ⟨congrArg Value.bool HBD.out,hu⟩
   | true =>
    iterate 2 (with_reducible refine HeldZ.value (v:=.bool true) rfl (fun u hu => by go_simp) ?_; simp only [pS, List.set])
    iterate 8 (with_reducible refine HeldZ.no rfl ?_; simp only [pS, List.set])
    iterate 3 (with_reducible refine HeldZ.value (v:=.bool true) rfl (fun u hu => by go_simp) ?_; simp only [pS, List.set])
    iterate 8 (with_reducible refine HeldZ.no rfl ?_; simp only [pS, List.set])
    iterate 2 (with_reducible refine HeldZ.value (v:=.bool true) rfl (fun u hu => by go_simp) ?_; simp only [pS, List.set])
    iterate 11 (with_reducible refine HeldZ.no rfl ?_; simp only [pS, List.set])
    iterate 2 (with_reducible refine HeldZ.value (v:=.bool true) rfl (fun u hu => by go_simp) ?_; simp only [pS, List.set])
    iterate 7 (with_reducible refine HeldZ.no rfl ?_; simp only [pS, List.set])
    iterate 2 (with_reducible refine HeldZ.value (v:=.bool true) rfl (fun u hu => by go_simp) ?_; simp only [pS, List.set])
    iterate 8 (with_reducible refine HeldZ.no rfl ?_; simp only [pS, List.set])
    with_reducible refine HeldZ.value (v:=.bool true) rfl (fun u hu => by go_simp) ?_
    simp only [pS,List.set]
    refine HeldZ.nil ?_
    intro u hu
    go_wp2_with fail
    go_meet
    case rel => exact ⟨congrArg Value.bool HBD.out,hu⟩
 case rest =>
  obtain ⟨rfl,hs⟩:=hcut
  have HB2':=qH (HSX.out _ hs).1
  have HX2:=qH (HSX.out _ hs).2
  clear hs HSX HKP HS1 HCC HFG HFR HCK HME HGP HBD
  cases bd with
  | true =>
   have HF : Hid (ans = false):=qH (by rw [HVA2.out];rfl)
   go_wp2_with fail
   go_ret
   exact ⟨ret_bool HF.out.symm,HB2'.out⟩
  | false =>
  have HVA3 : Hid (ans = (!b2 && (cl && sm))):=qH (by rw [HVA2.out];rfl)
  clear HVA2
  obtain ⟨V,hV⟩ : ∃ V,V = wc.alloc (.cells #[.bool on,.int .i64 nd,.int .i64 mn,.slice r1 rn r2] 46):=⟨_,rfl⟩
  have HBW:=qH (show Below wc.heap.size wc V by rw [hV];exact (Below.refl _ _).alloc (Nat.le_refl _) _)
  have HV0:=qH (show BoxC V wc.heap.size [.bool on,.int .i64 nd,.int .i64 mn,.slice r1 rn r2] by rw [hV];exact BoxC.made _ _ _)
  have HX3:=qH (HX2.out.below HBW.out)
  have HB3:=qH (HB2'.out.trans (HBW.out.mono HB2'.out.size))
  obtain ⟨hq,hhq⟩ : ∃ hq,hq = wc.heap.size:=⟨_,rfl⟩
  rw [<- hhq] at HV0
  have y12:=HX2.out.cell 12 _ rfl
  have y13:=HX2.out.cell 13 _ rfl
  have y14:=HX2.out.cell 14 _ rfl
  have y15:=HX2.out.cell 15 _ rfl
  go_upto_region 7 with fail
  rw [<- hV,<- hhq]
  clear hV hhq y12 y13 y14 y15 HX2 HB2' HBW
  obtain ⟨zz,hzz⟩ : ∃ z,decide (nd = 0 /\ mn = 0 /\ rn = 0) = z:=⟨_,rfl⟩
  rw [hzz] at HB2
  have HZZ:=qH hzz
  clear hzz
  have z0:=HV0.out.cell 0 _ rfl
  have z1:=HV0.out.cell 1 _ rfl
  have z2:=HV0.out.cell 2 _ rfl
  have z3:=HV0.out.cell 3 _ rfl
  have y8:=HX3.out.cell 8 _ rfl
  go_cut [5] from 6 to 112 (fun v u => v = .bool zz /\ u = V)
  case first =>
   by_cases k0 : nd = 0
   · by_cases k1 : mn = 0
     · by_cases k2 : rn = 0
       · have HF : Hid (true = zz):=qH (by rw [<- HZZ.out];exact (decide_eq_true ⟨k0,k1,k2⟩).symm)
         have kb : ((rn : Int) == 0) = true:=by rw [beq_iff_eq];omega
         subst k0 k1
         clear k2
         go_wp2_with fail
         go_meet
         case rel => exact ⟨congrArg Value.bool HF.out,rfl⟩
       · have HF : Hid (false = zz):=qH (by rw [<- HZZ.out];exact (decide_eq_false (fun e => k2 e.2.2)).symm)
         have kb : ((rn : Int) == 0) = false:=by rw [beq_eq_false_iff_ne];omega
         subst k0 k1
         clear k2
         go_wp2_with fail
         go_meet
         case rel => exact ⟨congrArg Value.bool HF.out,rfl⟩
     · have HF : Hid (false = zz):=qH (by rw [<- HZZ.out];exact (decide_eq_false (fun e => k1 e.2.1)).symm)
       have kb : (mn == 0) = false:=by simp [k1]
       subst k0
       clear k1
       go_wp2_with fail
       go_meet
       case rel => exact ⟨congrArg Value.bool HF.out,rfl⟩
   · have HF : Hid (false = zz):=qH (by rw [<- HZZ.out];exact (decide_eq_false (fun e => k0 e.1)).symm)
     have kb : (nd == 0) = false:=by simp [k0]
     clear k0
     go_wp2_with fail
     go_meet
     case rel => exact ⟨congrArg Value.bool HF.out,rfl⟩
  case rest =>
  obtain ⟨rfl,hw⟩:=hcut
  obtain rfl : V = wc:=hw.symm
  clear HZZ
  obtain ⟨nu,hnu⟩ : ∃ z,manyB nd mn = z:=⟨_,rfl⟩
  rw [hnu] at HB2
  have HNM : Hid (∀ u,Calls Tryz.prog 44 #[.int .i64 nd,.int .i64 mn] u fun e w' => e = .returned (.bool nu) /\ u = w'):=qH (fun u => by rw [<- hnu];exact l09Numbers_any nd mn u)
  clear hnu
  go_upto_region 8 with fail
  go_cut [136] from 6 to 136 (fun v u => v = .bool b2 /\ u = V)
  case first =>
   cases on with
   | false =>
    cases zz <;> (go_wp2_with fail;go_meet;case rel => exact ⟨congrArg Value.bool HB2.out,rfl⟩)
   | true =>
    cases op with
    | false =>
     go_wp2_with fail
     go_meet
     case rel => exact ⟨congrArg Value.bool HB2.out,rfl⟩
    | true =>
     cases nu <;> (go_wp2_with (go_at_call 44;refine (HNM.out _).mono ?_;rintro e w2 ⟨rfl,rfl⟩);go_meet;case rel => exact ⟨congrArg Value.bool HB2.out,rfl⟩)
  case rest =>
  obtain ⟨rfl,hw⟩:=hcut
  obtain rfl : V = wc:=hw.symm
  clear z0 z1 z2 z3 y8 HNM HB2
  cases b2 with
  | true =>
   have HF : Hid (ans = false):=qH (by rw [HVA3.out];rfl)
   go_wp2_with fail
   go_ret
   exact ⟨ret_bool HF.out.symm,HB3.out⟩
  | false =>
  have HVA4 : Hid (ans = (cl && sm)):=qH (by rw [HVA3.out];rfl)
  clear HVA3
  obtain ⟨BB,hBB⟩ : ∃ z,bkOf ds = z:=⟨_,rfl⟩
  have HSZ : Hid (BB.ts.length <= 1048576 /\ BB.is.length <= 1048576):=qH (by rw [<- hBB];have:=book_sizes (bkOf_right ds);omega)
  have HCLC : Hid (∀ u,Calls Tryz.prog 45 #[.string ds] u fun e w' => e = .returned (.bool cl) /\ Below u.heap.size u w'):=qH (fun u => (specClean_any ds u HD3.out).mono (by rintro e w' ⟨rfl,hb⟩;exact ⟨by rw [HCL.out],hb⟩))
  have HRPC : Hid (∀ u,Calls Tryz.prog 47 #[.string ds] u fun e w' => ∃ x1 m1 x3 x2 m2 x4,e = .returned (.agg #[.int .i64 BB.c0,.int .i64 BB.c1,.int .i64 BB.c2,.int .i64 BB.c3,.slice x1 m1 x3,.slice x2 m2 x4]) /\ Hid (BkR w' x1 m1 x3 x2 m2 x4 BB.ts BB.is) /\ Below u.heap.size u w'):=qH (fun u => (specReplay_any ds u HD3.out).mono (by rintro e w' ⟨x1,m1,x3,x2,m2,x4,rfl,ho,hb⟩;rw [hBB] at ho ⊢;exact ⟨x1,m1,x3,x2,m2,x4,rfl,qH ho.read,hb⟩))
  have HSMC : Hid (∀ u x1 m1 x3 x2 m2 x4,Below w.heap.size w u -> Hid (BkR u x1 m1 x3 x2 m2 x4 BB.ts BB.is) -> Calls Tryz.prog 46 #[.agg #[.int .i64 BB.c0,.int .i64 BB.c1,.int .i64 BB.c2,.int .i64 BB.c3,.slice x1 m1 x3,.slice x2 m2 x4],.agg #[.int .i64 c0,.int .i64 c1,.int .i64 c2,.int .i64 c3,.slice a1 n1 a3,.slice a2 n2 a4]] u fun e w' => e = .returned (.bool sm) /\ Below u.heap.size u w'):=qH (fun u x1 m1 x3 x2 m2 x4 hu hk => (l09Same_any BB.c0 BB.c1 BB.c2 BB.c3 x1 m1 x3 x2 m2 x4 BB.ts BB.is c0 c1 c2 c3 a1 n1 a3 a2 n2 a4 ts is u hk.out (HR.out.b.below hu) (by have:=HSZ.out;have:=hk.out.t.len;omega) (by have:=HSZ.out;have:=hk.out.i.len;omega) HV.out.n.1 HV.out.n.2.1).mono (by rintro e w' ⟨rfl,hb⟩;exact ⟨by rw [<- HSM.out,hBB],hb⟩))
  have HC : Hid (∀ u : World,Below V.heap.size V u -> u.cell? ⟨w.heap.size,0,none⟩ = some (.string ds) /\ u.cell? ⟨w.heap.size,2,none⟩ = some (.int .i64 c0) /\ u.cell? ⟨w.heap.size,3,none⟩ = some (.int .i64 c1) /\ u.cell? ⟨w.heap.size,4,none⟩ = some (.int .i64 c2) /\ u.cell? ⟨w.heap.size,5,none⟩ = some (.int .i64 c3) /\ u.cell? ⟨w.heap.size,6,none⟩ = some (.slice a1 n1 a3) /\ u.cell? ⟨w.heap.size,7,none⟩ = some (.slice a2 n2 a4)):=qH (fun u hu => by have hx:=HX3.out.below hu;exact ⟨hx.cell 0 _ rfl,hx.cell 2 _ rfl,hx.cell 3 _ rfl,hx.cell 4 _ rfl,hx.cell 5 _ rfl,hx.cell 6 _ rfl,hx.cell 7 _ rfl⟩)
  clear HSZ hBB HCL HSM
  generalize BB.c0 = d0 at *
  generalize BB.c1 = d1 at *
  generalize BB.c2 = d2 at *
  generalize BB.c3 = d3 at *
  have hFn : Below V.heap.size V V.drew:=(Below.refl _ _).drew
  go_upto_region 10 with fail
  cases cl with
  | false =>
   have HF : Hid (ans = false):=qH (by rw [HVA4.out];rfl)
   refine HeldZ.region hmx (fun u => Below V.heap.size V u) (by kernel_rfl) hFn ?_
   iterate 2 (with_reducible refine HeldZ.value (v:=.pointer (some ⟨w.heap.size,0,none⟩)) rfl (fun u hu => by go_simp) ?_; simp only [pS, List.set])
   with_reducible refine HeldZ.value (v:=.string ds) rfl (fun u hu => by have y0:=(HC.out u hu).1;go_simp) ?_
   simp only [pS,List.set]
   with_reducible refine HeldZ.call (v:=.bool false) (f:=45) (args:=#[.string ds]) rfl (fun u hu => by go_simp) (fun u hu => Calls.mono (HCLC.out u) (by rintro e u2 ⟨rfl,hb⟩;exact ⟨rfl,hu.trans (hb.mono hu.size)⟩)) ?_
   simp only [pS,List.set]
   with_reducible refine HeldZ.value (v:=.bool false) rfl (fun u hu => by go_simp) ?_
   simp only [pS,List.set]
   iterate 7 (with_reducible refine HeldZ.no rfl ?_; simp only [pS, List.set])
   iterate 2 (with_reducible refine HeldZ.value (v:=.bool false) rfl (fun u hu => by go_simp) ?_; simp only [pS, List.set])
   refine HeldZ.nil ?_
   intro u hu
   go_wp2_with fail
   go_ret
   exact ⟨ret_bool HF.out.symm,HB3.out.trans (hu.mono HB3.out.size)⟩
  | true =>
   have HF : Hid (ans = sm):=qH (by rw [HVA4.out];rfl)
   go_region_held3 (fun u => u.cell? ⟨w.heap.size,0,none⟩ = some (.string ds) /\ u.cell? ⟨w.heap.size,2,none⟩ = some (.int .i64 c0) /\ u.cell? ⟨w.heap.size,3,none⟩ = some (.int .i64 c1) /\ u.cell? ⟨w.heap.size,4,none⟩ = some (.int .i64 c2) /\ u.cell? ⟨w.heap.size,5,none⟩ = some (.int .i64 c3) /\ u.cell? ⟨w.heap.size,6,none⟩ = some (.slice a1 n1 a3) /\ u.cell? ⟨w.heap.size,7,none⟩ = some (.slice a2 n2 a4)) (exact HC.out _ hFn)
    (first | (go_at_call 45;(with_reducible refine Calls.mono (HCLC.out _) ?_);rintro e w1 ⟨rfl,hb⟩;have hFn:=hFn.trans (hb.mono hFn.size);clear hb) | (go_at_call 47;(with_reducible refine Calls.mono (HRPC.out _) ?_);rintro e w1 ⟨x1,m1,x3,x2,m2,x4,rfl,HKK,hb⟩;have hFn:=hFn.trans (hb.mono hFn.size);clear hb) | (go_at_call 46;(with_reducible refine Calls.mono (HSMC.out _ _ _ _ _ _ _ (HB3.out.trans (hFn.mono HB3.out.size)) HKK) ?_);rintro e w1 ⟨rfl,hb⟩;have hFn:=hFn.trans (hb.mono hFn.size);clear hb))
   all_goals
    go_wp2_with fail
    go_ret
    exact ⟨ret_bool HF.out.symm,HB3.out.trans (hFn.mono HB3.out.size)⟩
end Go.Proofs.YthkbcjnbmciolaaGreatDoor
namespace Go.Proofs.YthkbcjnbmciolaaGreatDoor
open Go.ChangeShapes Go.WideShapes Go.RowKit G IRow
set_option linter.unusedVariables false
theorem cellsI64b : Tryz.prog.cellsOf 2 = 1:=by kernel_rfl
theorem cellsStrb : Tryz.prog.cellsOf 9 = 1:=by kernel_rfl
theorem cellsConf : Tryz.prog.cellsOf 25 = 4:=by kernel_rfl
theorem openConf {H : Type} {enc : TypeId × Value -> H} {u : World} {base : Nat} {spare : Nat -> Bool} {held : Bool} {fuel : Nat} {cs : List Value} {x : DataW H × List MemPlace} (h : DataW.trod enc Tryz.prog u base spare held fuel 25 cs = some x) :
 ∃ (q0 : Int) (q1 : Int) (q2 : Int) (q3 : Int),cs = [.int .i64 q0,.int .i64 q1,.int .i64 q2,.int .i64 q3] /\ x = (.agg [.lit (.int .i64 q0),.lit (.int .i64 q1),.lit (.int .i64 q2),.lit (.int .i64 q3)],[]) /\ (Lit.int .i64 q0).wf = true /\ (Lit.int .i64 q1).wf = true /\ (Lit.int .i64 q2).wf = true /\ (Lit.int .i64 q3).wf = true:=by
 obtain ⟨xs,n,_,hx,hl0,hlen,hg⟩:=DataW.trod_struct Tryz.underlying25 h
 have hl : cs.length = 4:=hl0.trans cellsConf
 have hlen2 : xs.length = 4:=hlen
 match cs,hl,xs,hlen2 with
 | [a0,a1,a2,a3],_,[y0,y1,y2,y3],_ =>
  have r0:=hg 0 _ rfl
  have r1:=hg 1 _ rfl
  have r2:=hg 2 _ rfl
  have r3:=hg 3 _ rfl
  simp [cellsI64b] at r0 r1 r2 r3
  obtain ⟨q0,e0,z0,w0⟩:=DataW.trod_int Tryz.underlying2 r0
  obtain ⟨q1,e1,z1,w1⟩:=DataW.trod_int Tryz.underlying2 r1
  obtain ⟨q2,e2,z2,w2⟩:=DataW.trod_int Tryz.underlying2 r2
  obtain ⟨q3,e3,z3,w3⟩:=DataW.trod_int Tryz.underlying2 r3
  simp only [List.cons.injEq,and_true] at e0 e1 e2 e3
  subst e0 e1 e2 e3 z0 z1 z2 z3
  exact ⟨q0,q1,q2,q3,rfl,by rw [hx];rfl,w0,w1,w2,w3⟩
theorem cellsTerm : Tryz.prog.cellsOf 114 = 2:=by kernel_rfl
theorem openTerm {H : Type} {enc : TypeId × Value -> H} {u : World} {base : Nat} {spare : Nat -> Bool} {held : Bool} {fuel : Nat} {cs : List Value} {x : DataW H × List MemPlace} (h : DataW.trod enc Tryz.prog u base spare held fuel 114 cs = some x) :
 ∃ (q0 : Int) (q1 : ByteArray),cs = [.int .i64 q0,.string q1] /\ x = (.agg [.lit (.int .i64 q0),.lit (.string q1.data.toList)],[]) /\ (Lit.int .i64 q0).wf = true /\ q1.size <= maxLen:=by
 obtain ⟨xs,n,_,hx,hl0,hlen,hg⟩:=DataW.trod_struct Tryz.underlying114 h
 have hl : cs.length = 2:=hl0.trans cellsTerm
 have hlen2 : xs.length = 2:=hlen
 match cs,hl,xs,hlen2 with
 | [a0,a1],_,[y0,y1],_ =>
  have r0:=hg 0 _ rfl
  have r1:=hg 1 _ rfl
  simp [cellsI64b,cellsStrb] at r0 r1
  obtain ⟨q0,e0,z0,w0⟩:=DataW.trod_int Tryz.underlying2 r0
  obtain ⟨q1,e1,z1,w1⟩:=DataW.trod_string Tryz.underlying9 r1
  simp only [List.cons.injEq,and_true] at e0 e1
  subst e0 e1 z0 z1
  exact ⟨q0,q1,rfl,by rw [hx];rfl,w0,w1⟩
theorem cellsItem : Tryz.prog.cellsOf 116 = 3:=by kernel_rfl
theorem openItem {H : Type} {enc : TypeId × Value -> H} {u : World} {base : Nat} {spare : Nat -> Bool} {held : Bool} {fuel : Nat} {cs : List Value} {x : DataW H × List MemPlace} (h : DataW.trod enc Tryz.prog u base spare held fuel 116 cs = some x) :
 ∃ (q0 : ByteArray) (q1 : Int) (q2 : ByteArray),cs = [.string q0,.int .i64 q1,.string q2] /\ x = (.agg [.lit (.string q0.data.toList),.lit (.int .i64 q1),.lit (.string q2.data.toList)],[]) /\ q0.size <= maxLen /\ (Lit.int .i64 q1).wf = true /\ q2.size <= maxLen:=by
 obtain ⟨xs,n,_,hx,hl0,hlen,hg⟩:=DataW.trod_struct Tryz.underlying116 h
 have hl : cs.length = 3:=hl0.trans cellsItem
 have hlen2 : xs.length = 3:=hlen
 match cs,hl,xs,hlen2 with
 | [a0,a1,a2],_,[y0,y1,y2],_ =>
  have r0:=hg 0 _ rfl
  have r1:=hg 1 _ rfl
  have r2:=hg 2 _ rfl
  simp [cellsI64b,cellsStrb] at r0 r1 r2
  obtain ⟨q0,e0,z0,w0⟩:=DataW.trod_string Tryz.underlying9 r0
  obtain ⟨q1,e1,z1,w1⟩:=DataW.trod_int Tryz.underlying2 r1
  obtain ⟨q2,e2,z2,w2⟩:=DataW.trod_string Tryz.underlying9 r2
  simp only [List.cons.injEq,and_true] at e0 e1 e2
  subst e0 e1 e2 z0 z1 z2
  exact ⟨q0,q1,q2,rfl,by rw [hx];rfl,w0,w1,w2⟩
theorem open_rows {α : Type} [Inhabited α] (E : Enc α) (d : α) (Good : α -> Prop) {H : Type} {enc : TypeId × Value -> H} {u : World} {base : Nat} {spare : Nat -> Bool} {held : Bool} {t e : TypeId} (ht : Tryz.prog.underlying t = some (.slice e)) (ce : Tryz.prog.cellsOf e = E.k) (hk : 0 < E.k)
 (hel : ∀ (f : Nat) (cs : List Value) (x : DataW H × List MemPlace),DataW.trod enc Tryz.prog u base spare held f e cs = some x -> ∃ p : α,cs = E.cells p /\ Good p)
 {fuel : Nat} {cs : List Value} {x : DataW H × List MemPlace} (h : DataW.trod enc Tryz.prog u base spare held fuel t cs = some x) :
 ∃ (a : Option Addr) (len cap : Nat) (ps : List α),cs = [.slice a len cap] /\ SR E d u a len cap ps /\ len <= maxLen /\ ∀ i,i < len -> Good (ps.getD i d):=by
 rcases Go.Deep.open_slice ht h with ⟨rfl,_⟩ | ⟨a,len,cap,m,n,D,Pl,rfl,hb,hl,hm,hmm,_,hx⟩
 · exact ⟨none,0,0,[],rfl,SR.none E d u,by decide,fun i hi => absurd hi (Nat.not_lt_zero _)⟩
 · have hlm : len <= m:=by rw [hmm];split <;> omega
   have each : ∀ i,i < len -> ∃ p : α,(∀ j v,(E.cells p)[j]? = some v -> u.cell? ((a.add (i * E.k)).add j) = some v) /\ Good p:=by
    intro i hi
    obtain ⟨cs',h1,h2⟩:=hx i (by omega)
    obtain ⟨p,rfl,hg⟩:=hel _ _ _ h2
    rw [ce] at h1
    obtain ⟨_,hlen,hcell⟩:=World.cells?_some h1
    refine ⟨p,fun j v hj => ?_,hg⟩
    have hjl : j < E.k:=by
     rw [<- E.len p]
     by_cases h : j < (E.cells p).length
     · exact h
     · rw [List.getElem?_eq_none (by omega)] at hj;cases hj
    rw [hcell j hjl]
    exact hj
   obtain ⟨q,hq⟩:=Go.Deep.choose_lt each
   have hgd : ∀ i,i < len -> ((List.range len).map q).getD i d = q i:=fun i hi => by simp [List.getD,hi]
   refine ⟨some a,len,cap,(List.range len).map q,rfl,⟨by simp,hl,by simp,fun hn => ?_⟩,by omega,fun i hi => by rw [hgd i hi];exact (hq i hi).2⟩
   obtain ⟨b,o,sp⟩:=a
   have hfirst : ∃ v,(E.cells (q 0))[0]? = some v:=⟨_,List.getElem?_eq_getElem (show 0 < (E.cells (q 0)).length by rw [E.len];exact hk)⟩
   obtain ⟨v0,hv0⟩:=hfirst
   have h1:=(hq 0 hn).1 0 v0 hv0
   have hsp : sp = none:=by simpa [Addr.add] using World.cell?_spot h1
   subst hsp
   have ha1 : ∀ o n : Nat,(⟨b,o,none⟩ : Addr).add n = ⟨b,o + n,none⟩:=fun o n => by unfold Addr.add;split <;> simp_all
   have hadd : ∀ i j : Nat,(((⟨b,o,none⟩ : Addr).add (i * E.k)).add j) = ⟨b,o + i * E.k + j,none⟩:=fun i j => by rw [ha1,ha1]
   have hblk : b < u.heap.size:=by
    have:=h1
    rw [hadd] at this
    exact World.block_lt_of_cell? u _ this
   refine ⟨b,o,rfl,hblk,fun i hi j v hj => ?_⟩
   rw [hgd i hi] at hj
   rw [<- hadd]
   exact (hq i hi).1 j v hj
instance : Inhabited Tm:=⟨tmD⟩
instance : Inhabited Im:=⟨imD⟩
instance : Inhabited Dd:=⟨ddD⟩
def TmG (p : Tm) : Prop:=p.lk.size <= maxLen
def ImG (p : Im) : Prop:=p.nm.size <= maxLen /\ p.bd.size <= maxLen
theorem openTermS {H : Type} {enc : TypeId × Value -> H} {u : World} {base : Nat} {spare : Nat -> Bool} {held : Bool} {fuel : Nat} {cs : List Value} {x : DataW H × List MemPlace} (h : DataW.trod enc Tryz.prog u base spare held fuel 26 cs = some x) :
 ∃ (a : Option Addr) (len cap : Nat) (ps : List Tm),cs = [.slice a len cap] /\ TmR u a len cap ps /\ len <= maxLen /\ ∀ i,i < len -> TmG (ps.getD i tmD) :=
 open_rows tmE tmD TmG Tryz.underlying26 cellsTerm (by decide) (fun f cs x hx => by
  obtain ⟨q0,q1,rfl,_,w0,w1⟩:=openTerm hx
  exact ⟨⟨q0,q1⟩,rfl,w1⟩) h
theorem openItemS {H : Type} {enc : TypeId × Value -> H} {u : World} {base : Nat} {spare : Nat -> Bool} {held : Bool} {fuel : Nat} {cs : List Value} {x : DataW H × List MemPlace} (h : DataW.trod enc Tryz.prog u base spare held fuel 27 cs = some x) :
 ∃ (a : Option Addr) (len cap : Nat) (ps : List Im),cs = [.slice a len cap] /\ ImR u a len cap ps /\ len <= maxLen /\ ∀ i,i < len -> ImG (ps.getD i imD) :=
 open_rows imE imD ImG Tryz.underlying27 cellsItem (by decide) (fun f cs x hx => by
  obtain ⟨q0,q1,q2,rfl,_,w0,w1,w2⟩:=openItem hx
  exact ⟨⟨q0,q1,q2⟩,rfl,w0,w2⟩) h
end Go.Proofs.YthkbcjnbmciolaaGreatDoor
