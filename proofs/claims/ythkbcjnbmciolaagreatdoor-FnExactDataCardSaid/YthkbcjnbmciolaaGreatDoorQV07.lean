/- Used by the law. -/
import Derived.Test.YthkbcjnbmciolaaGreatDoorQV06
set_option maxRecDepth 100000
set_option maxHeartbeats 16000000
namespace Go.Proofs.YthkbcjnbmciolaaGreatDoor
open Go.RowKit Go.PlainAid G MGF IRow
set_option linter.unusedVariables false
theorem eqEnvS_same (a b : Option Addr) (n cap cbp : Nat) (l : List Ev) (w : World) (h : ER w a n cap l) (k : ER w b n cbp l) (hn : n <= 1048576) :
 Calls Tryz.prog 32 #[.slice a n cap,.slice b n cbp] w fun e w' => e = .returned (.bool true) /\ Below w.heap.size w w':=by
 go_enter Tryz.func32,Tryz.ntmps32
 go_wp2_with fail
 go_loopw [5] (fun i wr => ∃ j : Nat,j <= n /\ i = .int .i64 j /\ Below w.heap.size w wr) (fun i _ => n - (intOf i).toNat)
 case atStart => exact ⟨0,Nat.zero_le _,rfl,Below.refl _ _⟩
 case round =>
  obtain ⟨j,hj,rfl,hB⟩:=hrel
  have HB:=qH hB.drew
  by_cases hlt : j < n
  · obtain ⟨g,o,rfl,hg,hc0,hc1,hc2,hc3,hc4⟩:=h.at hlt
    obtain ⟨g',o',rfl,hg',hd0,hd1,hd2,hd3,hd4⟩:=k.at hlt
    have a0:=(hB.cell (p:=⟨g,o + j * 5,none⟩) hg).trans hc0
    have a1:=(hB.cell (p:=⟨g,o + j * 5 + 1,none⟩) hg).trans hc1
    have a2:=(hB.cell (p:=⟨g,o + j * 5 + 2,none⟩) hg).trans hc2
    have a3:=(hB.cell (p:=⟨g,o + j * 5 + 3,none⟩) hg).trans hc3
    have a4:=(hB.cell (p:=⟨g,o + j * 5 + 4,none⟩) hg).trans hc4
    have b0:=(hB.cell (p:=⟨g',o' + j * 5,none⟩) hg').trans hd0
    have b1:=(hB.cell (p:=⟨g',o' + j * 5 + 1,none⟩) hg').trans hd1
    have b2:=(hB.cell (p:=⟨g',o' + j * 5 + 2,none⟩) hg').trans hd2
    have b3:=(hB.cell (p:=⟨g',o' + j * 5 + 3,none⟩) hg').trans hd3
    have b4:=(hB.cell (p:=⟨g',o' + j * 5 + 4,none⟩) hg').trans hd4
    generalize (l.getD j evD).g = q0 at *
    generalize (l.getD j evD).n = q1 at *
    generalize (l.getD j evD).m = q2 at *
    generalize (l.getD j evD).x = q3 at *
    generalize (l.getD j evD).t = q4 at *
    clear hc0 hc1 hc2 hc3 hc4 hd0 hd1 hd2 hd3 hd4 h k hB
    go_wp2_with fail
    go_still_tail 8,(by kernel_rfl)
    change wpList _ _ _ _ _ wr.drew
    clear a0 a1 a2 a3 a4 b0 b1 b2 b3 b4
    generalize wr.drew = we at *
    go_wp2_with fail
    refine (eqEnv_same q0 q1 q2 q3 q4 _).mono ?_
    rintro e w5 ⟨rfl,hb⟩
    have HB5:=qH (HB.out.trans (hb.mono HB.out.size))
    clear hb
    go_wp2_with fail
    go_roundw
    case rel => exact ⟨j + 1,by omega,by go_num,HB5.out⟩
    case measure => simp [intOf] <;> omega
  · obtain rfl : j = n:=by omega
    have HB2:=qH hB
    clear h k hB
    go_wp2_with fail
    go_ret
    exact ⟨rfl,HB2.out⟩
theorem flat_setj {α : Type} (E : Enc α) (d : α) (ps : List α) (i j : Nat) (v : Value) (p' : α) (hi : i < ps.length) (hj : j < E.k) (hc : (E.cells (ps.getD i d)).set j v = E.cells p') : (E.flat ps).set (i * E.k + j) v = E.flat (ps.set i p'):=by
 induction ps generalizing i with
 | nil => exact absurd hi (Nat.not_lt_zero _)
 | cons p ps ih =>
  cases i with
  | zero =>
   rw [List.getD_cons_zero] at hc
   simp only [Enc.flat,Nat.zero_mul,Nat.zero_add,List.set_cons_zero]
   rw [List.set_append_left _ _ (by rw [E.len];exact hj),hc]
  | succ i =>
   rw [List.getD_cons_succ] at hc
   have:=ih i (by simpa using hi) hc
   simp only [Enc.flat,List.set_cons_succ]
   rw [List.set_append_right _ _ (by rw [E.len,Nat.succ_mul];omega),E.len,<- this]
   congr 2
   rw [Nat.succ_mul];omega
theorem ownE_four {w : World} {base g n cap : Nat} {e : TypeId} {ps : List Ev} (h : w.ownsRow base e evE.k (.slice (some ⟨g,0,none⟩) n cap) n (evE.flat ps)) {i : Nat} (hi : i < n) (a b c d : Int) :
 ((((w.setCell ⟨g,i * 5,none⟩ (.int .i64 a)).setCell ⟨g,i * 5 + 1,none⟩ (.int .i64 b)).setCell ⟨g,i * 5 + 2,none⟩ (.int .i64 c)).setCell ⟨g,i * 5 + 3,none⟩ (.int .i64 d)).ownsRow base e evE.k (.slice (some ⟨g,0,none⟩) n cap) n (evE.flat (ps.set i ⟨a,b,c,d,(ps.getD i evD).t⟩)) ∧
   w.grownBy ((((w.setCell ⟨g,i * 5,none⟩ (.int .i64 a)).setCell ⟨g,i * 5 + 1,none⟩ (.int .i64 b)).setCell ⟨g,i * 5 + 2,none⟩ (.int .i64 c)).setCell ⟨g,i * 5 + 3,none⟩ (.int .i64 d)) (some g):=by
 have hl:=envs_len h
 obtain ⟨h1,g1⟩:=h.stored (i * 5) (.int .i64 a)
 obtain ⟨h2,g2⟩:=h1.stored (i * 5 + 1) (.int .i64 b)
 obtain ⟨h3,g3⟩:=h2.stored (i * 5 + 2) (.int .i64 c)
 obtain ⟨h4,g4⟩:=h3.stored (i * 5 + 3) (.int .i64 d)
 have e1 : (evE.flat ps).set (i * 5) (.int .i64 a) = evE.flat (ps.set i ⟨a,(ps.getD i evD).n,(ps.getD i evD).m,(ps.getD i evD).x,(ps.getD i evD).t⟩):=flat_setj evE evD ps i 0 _ _ (by omega) (by decide) rfl
 have gd : ∀ q : Ev,(ps.set i q).getD i evD = q:=fun q => by simp [List.getD,show i < ps.length by omega]
 have e2:=flat_setj evE evD (ps.set i ⟨a,(ps.getD i evD).n,(ps.getD i evD).m,(ps.getD i evD).x,(ps.getD i evD).t⟩) i 1 (.int .i64 b) ⟨a,b,(ps.getD i evD).m,(ps.getD i evD).x,(ps.getD i evD).t⟩ (by simp;omega) (by decide) (by rw [gd];rfl)
 have e3:=flat_setj evE evD (ps.set i ⟨a,b,(ps.getD i evD).m,(ps.getD i evD).x,(ps.getD i evD).t⟩) i 2 (.int .i64 c) ⟨a,b,c,(ps.getD i evD).x,(ps.getD i evD).t⟩ (by simp;omega) (by decide) (by rw [gd];rfl)
 have e4:=flat_setj evE evD (ps.set i ⟨a,b,c,(ps.getD i evD).x,(ps.getD i evD).t⟩) i 3 (.int .i64 d) ⟨a,b,c,d,(ps.getD i evD).t⟩ (by simp;omega) (by decide) (by rw [gd];rfl)
 rw [List.set_set] at e2 e3 e4
 have k5 : evE.k = 5:=rfl
 rw [k5] at e2 e3 e4
 rw [e1,e2,e3,e4] at h4
 exact ⟨h4,grown_trans (grown_trans (grown_trans g1 g2) g3) g4⟩
theorem ownE_last {w : World} {base g n cap : Nat} {e : TypeId} {ps : List Ev} (h : w.ownsRow base e evE.k (.slice (some ⟨g,0,none⟩) n cap) n (evE.flat ps)) {i : Nat} (hi : i < n) (t : ByteArray) :
 (w.setCell ⟨g,i * 5 + 4,none⟩ (.string t)).ownsRow base e evE.k (.slice (some ⟨g,0,none⟩) n cap) n (evE.flat (ps.set i ⟨(ps.getD i evD).g,(ps.getD i evD).n,(ps.getD i evD).m,(ps.getD i evD).x,t⟩)) ∧
  w.grownBy (w.setCell ⟨g,i * 5 + 4,none⟩ (.string t)) (some g):=by
 have hl:=envs_len h
 obtain ⟨h1,g1⟩:=h.stored (i * 5 + 4) (.string t)
 have e1 : (evE.flat ps).set (i * 5 + 4) (.string t) = evE.flat (ps.set i ⟨(ps.getD i evD).g,(ps.getD i evD).n,(ps.getD i evD).m,(ps.getD i evD).x,t⟩):=flat_setj evE evD ps i 4 _ _ (by omega) (by decide) rfl
 rw [e1] at h1
 exact ⟨h1,g1⟩
def mkE (k j : Nat) : Ev:=⟨(k : Int) + 5 * (j : Int),(k : Int) + 5 * (j : Int) + 1,(k : Int) + 5 * (j : Int) + 1 + 1,(k : Int) + 5 * (j : Int) + 1 + 1 + 1,mkt (k + 5 * j + 4)⟩
def marksE (k n : Nat) : List Ev:=(List.range n).map (mkE k)
theorem marksE_length (k n : Nat) : (marksE k n).length = n:=by simp [marksE]
theorem marksE_getD {k n j : Nat} (h : j < n) : (marksE k n).getD j evD = mkE k j:=by simp [marksE,List.getD,h]
def mixE (zs ys : List Ev) (k : Nat) : List Ev:=zs.take k ++ ys.drop k
theorem mixE_zero (zs ys : List Ev) : mixE zs ys 0 = ys:=by simp [mixE]
theorem mixE_all {zs ys : List Ev} (h : ys.length = zs.length) : mixE zs ys zs.length = zs:=by unfold mixE;rw [List.take_length,List.drop_eq_nil_of_le (by omega),List.append_nil]
theorem mixE_length {zs ys : List Ev} (h : ys.length = zs.length) (k : Nat) : (mixE zs ys k).length = zs.length:=by simp [mixE];omega
theorem mixE_set {zs ys : List Ev} {k : Nat} (h : ys.length = zs.length) (hk : k < zs.length) : (mixE zs ys k).set k (zs.getD k evD) = mixE zs ys (k + 1):=by
 unfold mixE
 rw [List.set_append_right _ _ (by simp;omega)]
 have e1 : k - (zs.take k).length = 0:=by simp;omega
 rw [e1,List.drop_eq_getElem_cons (show k < ys.length by omega),List.set_cons_zero]
 have e2 : zs.getD k evD = zs[k]:=by simp [List.getD,List.getElem?_eq_getElem hk]
 have e3 : zs.take (k + 1) = zs.take k ++ [zs[k]]:=(List.take_append_getElem hk).symm
 rw [e2,e3,List.append_assoc]
 rfl
theorem markEnvS_any (a : Option Addr) (base n cap : Nat) (zs : List Ev) (k0 : Nat) (w : World) (h : w.ownsRow base 101 evE.k (.slice a n cap) n (evE.flat zs)) (hn : n <= 1048576) (hk0 : 0 < k0) (hk1 : k0 <= 1099511627776) :
 Calls Tryz.prog 35 #[.slice a n cap,.int .i64 (k0 : Int)] w fun e w' => e = .returned (.int .i64 ((k0 : Int) + 5 * (n : Int))) /\ w'.ownsRow base 101 evE.k (.slice a n cap) n (evE.flat (marksE k0 n)) /\ w.grownBy w' (Value.slice a n cap).ownBlock:=by
 have hl:=envs_len h
 have HML:=qH (marksE_length k0 n)
 have HZL:=qH hl
 clear hl
 go_enter Tryz.func35,Tryz.ntmps35
 go_wp2_with fail
 go_loopw [1,5] (fun k i wr => ∃ j : Nat,j <= n /\ i = .int .i64 j /\ k = .int .i64 ((k0 : Int) + 5 * (j : Int)) /\ wr.ownsRow base 101 evE.k (.slice a n cap) n (evE.flat (mixE (marksE k0 n) zs j)) /\ w.grownBy wr (Value.slice a n cap).ownBlock) (fun _ i _ => n - (intOf i).toNat)
 case atStart => exact ⟨0,Nat.zero_le _,rfl,by simp,by rw [mixE_zero];exact h,⟨rfl,rfl,rfl,Nat.le_refl _,fun _ _ _ => rfl⟩⟩
 case round =>
  obtain ⟨j,hj,rfl,rfl,hown,hg⟩:=hrel
  by_cases hlt : j < n
  · obtain ⟨g,c,hv,_,hgl⟩:=hown.form (by omega)
    simp only [Value.slice.injEq] at hv
    obtain ⟨rfl,_,rfl⟩:=hv
    obtain ⟨g',o',hge,_,c0,c1,c2,c3,c4⟩:=(ER.own hown).at hlt
    simp only [Option.some.injEq,Addr.mk.injEq,and_true] at hge
    obtain ⟨rfl,rfl⟩:=hge
    rw [Nat.zero_add] at c0 c1 c2 c3 c4
    have f0:=hown.frozenAt (j * 5)
    have f1:=hown.frozenAt (j * 5 + 1)
    have f2:=hown.frozenAt (j * 5 + 2)
    have f3:=hown.frozenAt (j * 5 + 3)
    have HS4:=qH (fun x0 x1 x2 x3 : Int => ownE_four hown hlt x0 x1 x2 x3)
    have HG0:=qH hg
    have HMT : Hid (∀ (r : Int) (u : World),r = (k0 : Int) + 5 * (j : Int) + 4 -> Calls Tryz.prog 37 #[.int .i64 r] u fun e w' => e = .returned (.string (mkt (k0 + 5 * j + 4))) /\ Below u.heap.size u w'):=qH (fun r u hr => by
     have hm:=markText_any (k0 + 5 * j + 4) (w:=u) (by omega) (by omega)
     rwa [show ((k0 + 5 * j + 4 : Nat) : Int) = r by omega] at hm)
    have HST:=qH (mixE_set (zs:=marksE k0 n) (ys:=zs) (k:=j) (by rw [HML.out,HZL.out]) (by rw [HML.out];exact hlt))
    rw [marksE_getD hlt] at HST
    have HMJ : Hid (j < (mixE (marksE k0 n) zs j).length):=qH (by rw [mixE_length (by rw [HML.out,HZL.out]),HML.out];exact hlt)
    clear hown hg h
    go_wp2_with fail
    refine (HMT.out _ _ (by omega)).mono ?_
    rintro e w5 ⟨rfl,hb⟩
    have hs4:=HS4.out ((k0 : Int) + 5 * (j : Int)) ((k0 : Int) + 5 * (j : Int) + 1) ((k0 : Int) + 5 * (j : Int) + 1 + 1) ((k0 : Int) + 5 * (j : Int) + 1 + 1 + 1)
    have hown5:=own_below hs4.1 hb
    have HG5:=qH (grown_trans (grown_trans HG0.out hs4.2) (fg_below hb))
    obtain ⟨g',o',hge,_,_,_,_,_,d4⟩:=(ER.own hown5).at hlt
    simp only [Option.some.injEq,Addr.mk.injEq,and_true] at hge
    obtain ⟨rfl,rfl⟩:=hge
    rw [Nat.zero_add] at d4
    have f4:=hown5.frozenAt (j * 5 + 4)
    have hs5:=ownE_last hown5 hlt (mkt (k0 + 5 * j + 4))
    rw [List.set_set] at hs5
    have e2 : ∀ q : Ev,((mixE (marksE k0 n) zs j).set j q).getD j evD = q:=fun q => by simp [List.getD,HMJ.out]
    rw [e2] at hs5
    have HS5 : Hid (World.ownsRow _ base 101 evE.k (.slice (some ⟨g,0,none⟩) n cap) n (evE.flat (mixE (marksE k0 n) zs (j + 1)))):=qH (by rw [<- HST.out];exact hs5.1)
    have HG6:=qH (grown_trans HG5.out hs5.2)
    clear hs4 hown5 hb hs5 e2 c0 c1 c2 c3 c4 f0 f1 f2 f3
    go_wp2_with fail
    go_roundw
    case rel => exact ⟨j + 1,by omega,by go_num,by go_num,HS5.out,HG6.out⟩
    case measure => simp [intOf] <;> omega
  · obtain rfl : j = n:=by omega
    have hm : mixE (marksE k0 j) zs j = marksE k0 j:=by
     have:=mixE_all (zs:=marksE k0 j) (ys:=zs) (by rw [HML.out,HZL.out])
     rwa [HML.out] at this
    rw [hm] at hown
    have HO:=qH hown
    have HG:=qH hg
    clear hown hg hm h
    go_wp2_with fail
    go_ret
    exact ⟨rfl,HO.out,HG.out⟩
theorem szEnvL_any (q0 : Int) (q1 : Int) (q2 : Int) (q3 : Int) (q4 : ByteArray) (left : Int) (w : World) (hq4 : q4.size <= maxLen) (h0 : 0 <= left) (h1 : left <= 1048576) :
 Calls Tryz.prog 40 #[.agg #[.int .i64 q0,.int .i64 q1,.int .i64 q2,.int .i64 q3,.string q4],.int .i64 left] w fun e w' => ∃ r : Int,e = .returned (.int .i64 r) /\ (r = -1 ∨ (0 <= r /\ r <= left /\ q4.size <= 1048576)) /\ Below w.heap.size w w':=by
 unfold maxLen at hq4
 have HB : Hid (Below w.heap.size w (w.alloc (.cells #[.int .i64 q0,.int .i64 q1,.int .i64 q2,.int .i64 q3,.string q4] 88))):=qH ((Below.refl _ _).alloc (Nat.le_refl _) _)
 have hw0 : IntKind.i64.wrap (left - (q4.size : Int)) = left - (q4.size : Int):=by rw [IntWalk.i64_in _ (by omega)]
 by_cases c0 : left - (q4.size : Int) < 0
 · go_enter Tryz.func40,Tryz.ntmps40
   go_wp2_with fail
   go_ret
   exact ⟨-1,rfl,.inl rfl,HB.out⟩
 · skip
   go_enter Tryz.func40,Tryz.ntmps40
   go_wp2_with fail
   go_ret
   exact ⟨_,rfl,.inr ⟨by omega,by omega,by omega⟩,HB.out⟩
theorem ER.set0 {w : World} {base g n cap : Nat} {e : TypeId} {ps : List Ev} (h : w.ownsRow base e evE.k (.slice (some ⟨g,0,none⟩) n cap) n (evE.flat ps)) {i : Nat} (hi : i < n) (v : Int) :
 (w.setCell ⟨g,i * 5,none⟩ (.int .i64 v)).ownsRow base e evE.k (.slice (some ⟨g,0,none⟩) n cap) n (evE.flat (ps.set i ⟨v,(ps.getD i evD).n,(ps.getD i evD).m,(ps.getD i evD).x,(ps.getD i evD).t⟩)) /\ w.grownBy (w.setCell ⟨g,i * 5,none⟩ (.int .i64 v)) (some g):=by
 have hl:=envs_len h
 obtain ⟨h1,g1⟩:=h.stored (i * 5) (.int .i64 v)
 have e1 : (evE.flat ps).set (i * 5) (.int .i64 v) = evE.flat (ps.set i ⟨v,(ps.getD i evD).n,(ps.getD i evD).m,(ps.getD i evD).x,(ps.getD i evD).t⟩):=flat_setX evE evD ps i 0 _ _ (by omega) (by decide) rfl
 rw [e1] at h1
 exact ⟨h1,g1⟩
theorem ER.set1 {w : World} {base g n cap : Nat} {e : TypeId} {ps : List Ev} (h : w.ownsRow base e evE.k (.slice (some ⟨g,0,none⟩) n cap) n (evE.flat ps)) {i : Nat} (hi : i < n) (v : Int) :
 (w.setCell ⟨g,i * 5 + 1,none⟩ (.int .i64 v)).ownsRow base e evE.k (.slice (some ⟨g,0,none⟩) n cap) n (evE.flat (ps.set i ⟨(ps.getD i evD).g,v,(ps.getD i evD).m,(ps.getD i evD).x,(ps.getD i evD).t⟩)) /\ w.grownBy (w.setCell ⟨g,i * 5 + 1,none⟩ (.int .i64 v)) (some g):=by
 have hl:=envs_len h
 obtain ⟨h1,g1⟩:=h.stored (i * 5 + 1) (.int .i64 v)
 have e1 : (evE.flat ps).set (i * 5 + 1) (.int .i64 v) = evE.flat (ps.set i ⟨(ps.getD i evD).g,v,(ps.getD i evD).m,(ps.getD i evD).x,(ps.getD i evD).t⟩):=flat_setX evE evD ps i 1 _ _ (by omega) (by decide) rfl
 rw [e1] at h1
 exact ⟨h1,g1⟩
theorem ER.set2 {w : World} {base g n cap : Nat} {e : TypeId} {ps : List Ev} (h : w.ownsRow base e evE.k (.slice (some ⟨g,0,none⟩) n cap) n (evE.flat ps)) {i : Nat} (hi : i < n) (v : Int) :
 (w.setCell ⟨g,i * 5 + 2,none⟩ (.int .i64 v)).ownsRow base e evE.k (.slice (some ⟨g,0,none⟩) n cap) n (evE.flat (ps.set i ⟨(ps.getD i evD).g,(ps.getD i evD).n,v,(ps.getD i evD).x,(ps.getD i evD).t⟩)) /\ w.grownBy (w.setCell ⟨g,i * 5 + 2,none⟩ (.int .i64 v)) (some g):=by
 have hl:=envs_len h
 obtain ⟨h1,g1⟩:=h.stored (i * 5 + 2) (.int .i64 v)
 have e1 : (evE.flat ps).set (i * 5 + 2) (.int .i64 v) = evE.flat (ps.set i ⟨(ps.getD i evD).g,(ps.getD i evD).n,v,(ps.getD i evD).x,(ps.getD i evD).t⟩):=flat_setX evE evD ps i 2 _ _ (by omega) (by decide) rfl
 rw [e1] at h1
 exact ⟨h1,g1⟩
theorem ER.set3 {w : World} {base g n cap : Nat} {e : TypeId} {ps : List Ev} (h : w.ownsRow base e evE.k (.slice (some ⟨g,0,none⟩) n cap) n (evE.flat ps)) {i : Nat} (hi : i < n) (v : Int) :
 (w.setCell ⟨g,i * 5 + 3,none⟩ (.int .i64 v)).ownsRow base e evE.k (.slice (some ⟨g,0,none⟩) n cap) n (evE.flat (ps.set i ⟨(ps.getD i evD).g,(ps.getD i evD).n,(ps.getD i evD).m,v,(ps.getD i evD).t⟩)) /\ w.grownBy (w.setCell ⟨g,i * 5 + 3,none⟩ (.int .i64 v)) (some g):=by
 have hl:=envs_len h
 obtain ⟨h1,g1⟩:=h.stored (i * 5 + 3) (.int .i64 v)
 have e1 : (evE.flat ps).set (i * 5 + 3) (.int .i64 v) = evE.flat (ps.set i ⟨(ps.getD i evD).g,(ps.getD i evD).n,(ps.getD i evD).m,v,(ps.getD i evD).t⟩):=flat_setX evE evD ps i 3 _ _ (by omega) (by decide) rfl
 rw [e1] at h1
 exact ⟨h1,g1⟩
theorem ER.set4 {w : World} {base g n cap : Nat} {e : TypeId} {ps : List Ev} (h : w.ownsRow base e evE.k (.slice (some ⟨g,0,none⟩) n cap) n (evE.flat ps)) {i : Nat} (hi : i < n) (v : ByteArray) :
 (w.setCell ⟨g,i * 5 + 4,none⟩ (.string v)).ownsRow base e evE.k (.slice (some ⟨g,0,none⟩) n cap) n (evE.flat (ps.set i ⟨(ps.getD i evD).g,(ps.getD i evD).n,(ps.getD i evD).m,(ps.getD i evD).x,v⟩)) /\ w.grownBy (w.setCell ⟨g,i * 5 + 4,none⟩ (.string v)) (some g):=by
 have hl:=envs_len h
 obtain ⟨h1,g1⟩:=h.stored (i * 5 + 4) (.string v)
 have e1 : (evE.flat ps).set (i * 5 + 4) (.string v) = evE.flat (ps.set i ⟨(ps.getD i evD).g,(ps.getD i evD).n,(ps.getD i evD).m,(ps.getD i evD).x,v⟩):=flat_setX evE evD ps i 4 _ _ (by omega) (by decide) rfl
 rw [e1] at h1
 exact ⟨h1,g1⟩
theorem ER.stored {w : World} {base g n cap : Nat} {e : TypeId} {ps : List Ev} (h : w.ownsRow base e evE.k (.slice (some ⟨g,0,none⟩) n cap) n (evE.flat ps)) {i : Nat} (hi : i < n) (q0 : Int) (q1 : Int) (q2 : Int) (q3 : Int) (q4 : ByteArray) :
 (((((w.setCell ⟨g,i * 5,none⟩ (.int .i64 q0)).setCell ⟨g,i * 5 + 1,none⟩ (.int .i64 q1)).setCell ⟨g,i * 5 + 2,none⟩ (.int .i64 q2)).setCell ⟨g,i * 5 + 3,none⟩ (.int .i64 q3)).setCell ⟨g,i * 5 + 4,none⟩ (.string q4)).ownsRow base e evE.k (.slice (some ⟨g,0,none⟩) n cap) n (evE.flat (ps.set i ⟨q0,q1,q2,q3,q4⟩)) /\ w.grownBy (((((w.setCell ⟨g,i * 5,none⟩ (.int .i64 q0)).setCell ⟨g,i * 5 + 1,none⟩ (.int .i64 q1)).setCell ⟨g,i * 5 + 2,none⟩ (.int .i64 q2)).setCell ⟨g,i * 5 + 3,none⟩ (.int .i64 q3)).setCell ⟨g,i * 5 + 4,none⟩ (.string q4)) (some g):=by
 have hl:=envs_len h
 have gd : ∀ (p q : Ev),((ps.set i p).set i q) = ps.set i q:=fun p q => by rw [List.set_set]
 have ge : ∀ p : Ev,(ps.set i p).getD i evD = p:=fun p => by simp [List.getD,show i < ps.length by omega]
 have h0:=ER.set0 h hi q0
 have h1:=ER.set1 h0.1 hi q1
 rw [gd,ge] at h1
 have h2:=ER.set2 h1.1 hi q2
 rw [gd,ge] at h2
 have h3:=ER.set3 h2.1 hi q3
 rw [gd,ge] at h3
 have h4:=ER.set4 h3.1 hi q4
 rw [gd,ge] at h4
 exact ⟨h4.1,(grown_trans (grown_trans (grown_trans (grown_trans h0.2 h1.2) h2.2) h3.2) h4.2)⟩
theorem toEnvS_any (a : Option Addr) (n cap : Nat) (ps : List Ev) (w : World) (h : ER w a n cap ps) (hn : n <= 1048576) :
 Calls Tryz.prog 23 #[.slice a n cap] w fun e w' => ∃ a' cap',e = .returned (.slice a' n cap') /\ w'.ownsRow w.heap.size 101 evE.k (.slice a' n cap') n (evE.flat ps) /\ Below w.heap.size w w':=by
 obtain ⟨i0,hi,hz0,hz1,hz2⟩:=info_parts infoEnv
 have hl:=h.len
 go_enter Tryz.func23,Tryz.ntmps23
 go_wp2_with (at_make;refine wpList_make_full _ rfl (.tmp 6) (.tmp 6) 44 rfl w.heap.size 101 i0 (.agg #[.int .i64 0,.int .i64 0,.int .i64 0,.int .i64 0,.string ByteArray.empty]) 5 Tryz.underlying44 hi hz0 hz1 .i64 .i64 _ _ n rfl rfl rfl rfl (by rw [hz2];omega) (by unfold maxLen;omega) (Nat.le_refl _) ?_;intro w4 hown4 hg4;rw [show (madeCells (Value.agg #[Value.int .i64 0,Value.int .i64 0,Value.int .i64 0,Value.int .i64 0,Value.string ByteArray.empty]).cells (n * 5)).toList = evE.flat (List.replicate n evD) from made_enc evE evD n rfl (by decide)] at hown4)
 have HB4 : Hid (Below w.heap.size w w4):=qH ((Below.refl _ w).grown hg4 (Nat.le_refl _) (fun k hk => by cases hk))
 have HO4 : Hid (w4.ownsRow w.heap.size 101 evE.k (.slice (some ⟨w.heap.size,0,none⟩) n n) n (evE.flat (List.replicate n evD))):=qH hown4
 clear hg4 hown4
 go_loopw [4] (fun i wr => ∃ k : Nat,k <= n /\ i = .int .i64 k /\ wr.ownsRow w.heap.size 101 evE.k (.slice (some ⟨w.heap.size,0,none⟩) n n) n (evE.flat (mixX ps (List.replicate n evD) k)) /\ Below w.heap.size w wr) (fun i _ => n - (intOf i).toNat)
 case atStart => exact ⟨0,Nat.zero_le _,rfl,by rw [mixX_zero];exact HO4.out,HB4.out⟩
 case round =>
  obtain ⟨k,hk,rfl,hown,hB⟩:=hrel
  by_cases hlt : k < n
  · obtain ⟨g,o,rfl,hg,hc0,hc1,hc2,hc3,hc4⟩:=h.at hlt
    have a0:=(hB.cell (p:=⟨g,o + k * 5,none⟩) hg).trans hc0
    have a1:=(hB.cell (p:=⟨g,o + k * 5 + 1,none⟩) hg).trans hc1
    have a2:=(hB.cell (p:=⟨g,o + k * 5 + 2,none⟩) hg).trans hc2
    have a3:=(hB.cell (p:=⟨g,o + k * 5 + 3,none⟩) hg).trans hc3
    have a4:=(hB.cell (p:=⟨g,o + k * 5 + 4,none⟩) hg).trans hc4
    have HO:=qH hown
    have HB:=qH hB
    have HM:=qH (mixX_set evD (zs:=ps) (ys:=List.replicate n evD) (k:=k) (by rw [List.length_replicate,hl]) (by omega))
    have hpe : ps.getD k evD = ⟨(ps.getD k evD).g,(ps.getD k evD).n,(ps.getD k evD).m,(ps.getD k evD).x,(ps.getD k evD).t⟩:=rfl
    rw [hpe] at HM
    generalize (ps.getD k evD).g = q0 at *
    generalize (ps.getD k evD).n = q1 at *
    generalize (ps.getD k evD).m = q2 at *
    generalize (ps.getD k evD).x = q3 at *
    generalize (ps.getD k evD).t = q4 at *
    clear hown hB hc0 hc1 hc2 hc3 hc4 hpe HB4
    go_wp2_with fail
    refine (toEnv_any q0 q1 q2 q3 q4 _).mono ?_
    rintro e w5 ⟨rfl,hb⟩
    have hown:=own_below HO.out hb
    have hB:=HB.out.trans (hb.mono HB.out.size)
    have hs:=ER.stored hown hlt q0 q1 q2 q3 q4
    rw [HM.out] at hs
    have HS:=qH hs.1
    have HB5:=qH (((((hB.setCell (Nat.le_refl _) (p:=⟨w.heap.size,k * 5,none⟩) (.int .i64 q0)).setCell (Nat.le_refl _) (p:=⟨w.heap.size,k * 5 + 1,none⟩) (.int .i64 q1)).setCell (Nat.le_refl _) (p:=⟨w.heap.size,k * 5 + 2,none⟩) (.int .i64 q2)).setCell (Nat.le_refl _) (p:=⟨w.heap.size,k * 5 + 3,none⟩) (.int .i64 q3)).setCell (Nat.le_refl _) (p:=⟨w.heap.size,k * 5 + 4,none⟩) (.string q4))
    obtain ⟨g',o',hge,_,hd0,hd1,hd2,hd3,hd4⟩:=(ER.own hown).at hlt
    simp only [Option.some.injEq,Addr.mk.injEq,and_true] at hge
    obtain ⟨rfl,rfl⟩:=hge
    rw [Nat.zero_add] at hd0 hd1 hd2 hd3 hd4
    have f0:=hown.frozenAt (k * 5)
    have f1:=hown.frozenAt (k * 5 + 1)
    have f2:=hown.frozenAt (k * 5 + 2)
    have f3:=hown.frozenAt (k * 5 + 3)
    have f4:=hown.frozenAt (k * 5 + 4)
    clear hs hown hB hb HO HB HM a0 a1 a2 a3 a4
    go_wp2_with fail
    go_roundw
    case rel => exact ⟨k + 1,by omega,by go_num,HS.out,HB5.out⟩
    case measure => simp [intOf] <;> omega
  · obtain rfl : k = n:=by omega
    have hm : mixX ps (List.replicate k evD) k = ps:=by rw [<- hl];exact mixX_all (by simp)
    rw [hm] at hown
    have HO:=qH hown
    have HB:=qH hB
    clear hown hB
    go_wp2_with fail
    go_ret
    exact ⟨_,_,rfl,HO.out,HB.out⟩
def LeftEnv (n : Nat) (l : List Ev) (left : Int) (w : World) (e : Ending) (w' : World) : Prop :=
 ∃ r : Int,e = .returned (.int .i64 r) /\ ((r = -1) ∨ (0 <= r /\ r <= left /\ n <= 1048576 /\ ∀ t,t < n -> (l.getD t evD).t.size <= 1048576)) /\ Below w.heap.size w w'
theorem szEnvS_any (a : Option Addr) (n cap : Nat) (l : List Ev) (left : Int) (w : World) (h : ER w a n cap l) (hn : n <= 9223372036854775807) (hs : ∀ t,t < n -> (l.getD t evD).t.size <= maxLen) (hl0 : 0 <= left) (hl1 : left <= 1048576) :
 Calls Tryz.prog 15 #[.slice a n cap,.int .i64 left] w (LeftEnv n l left w):=by
 have hw : IntKind.i64.wrap (left - (n : Int)) = left - (n : Int):=by rw [IntWalk.i64_in _ (by omega)]
 have HS:=qH hs
 clear hs
 by_cases hn1 : (n : Int) <= left
 · have h2 : ¬ left - (n : Int) < 0:=by omega
   have hn2 : n <= 1048576:=by omega
   go_enter Tryz.func15,Tryz.ntmps15
   go_wp2_with fail
   go_loopw [1,5] (fun q i wr => ∃ (j : Nat) (r : Int),j <= n /\ i = .int .i64 j /\ q = .int .i64 r /\ 0 <= r /\ r <= left /\ Hid (∀ t,t < j -> (l.getD t evD).t.size <= 1048576) /\ Below w.heap.size w wr) (fun _ i _ => n - (intOf i).toNat)
   case atStart => exact ⟨0,_,Nat.zero_le _,rfl,rfl,by omega,by omega,qH (fun t ht => absurd ht (by omega)),Below.refl _ _⟩
   case round =>
    obtain ⟨j,r,hj,rfl,rfl,hr0,hr1,HA,hB⟩:=hrel
    by_cases hlt : j < n
    · obtain ⟨g,o,rfl,hg,hc0,hc1,hc2,hc3,hc4⟩:=h.at hlt
      have a0:=(hB.cell (p:=⟨g,o + j * 5,none⟩) hg).trans hc0
      have a1:=(hB.cell (p:=⟨g,o + j * 5 + 1,none⟩) hg).trans hc1
      have a2:=(hB.cell (p:=⟨g,o + j * 5 + 2,none⟩) hg).trans hc2
      have a3:=(hB.cell (p:=⟨g,o + j * 5 + 3,none⟩) hg).trans hc3
      have a4:=(hB.cell (p:=⟨g,o + j * 5 + 4,none⟩) hg).trans hc4
      have hsj:=HS.out j hlt
      have HA2 : Hid (((l.getD j evD).t.size <= 1048576) -> ∀ t,t < j + 1 -> (l.getD t evD).t.size <= 1048576):=qH (fun hx t ht => by
       by_cases e : t = j
       · rw [e];exact hx
       · exact HA.out t (by omega))
      have HB:=qH hB
      generalize (l.getD j evD).g = q0 at *
      generalize (l.getD j evD).n = q1 at *
      generalize (l.getD j evD).m = q2 at *
      generalize (l.getD j evD).x = q3 at *
      generalize (l.getD j evD).t = q4 at *
      clear hc0 hc1 hc2 hc3 hc4 hB
      go_wp2_with fail
      refine (szEnvL_any q0 q1 q2 q3 q4 r _ hsj hr0 (by omega)).mono ?_
      rintro e w5 ⟨r',rfl,hr,hb⟩
      have HB5:=qH (HB.out.trans (hb.mono HB.out.size))
      clear hb a0 a1 a2 a3 a4
      rcases hr with rfl | ⟨hp0,hp1,hps⟩
      · go_wp2_with fail
        go_ret
        exact ⟨-1,rfl,.inl rfl,HB5.out⟩
      · have hnn : ¬ r' < 0:=by omega
        have HA3:=qH (HA2.out hps)
        clear hps
        go_wp2_with fail
        go_roundw
        case rel => exact ⟨j + 1,r',by omega,by go_num,rfl,hp0,by omega,HA3,HB5.out⟩
        case measure => simp [intOf] <;> omega
    · obtain rfl : j = n:=by omega
      have HB:=qH hB
      clear hB
      go_wp2_with fail
      go_ret
      exact ⟨r,rfl,.inr ⟨hr0,hr1,hn2,HA.out⟩,HB.out⟩
 · have h2 : left - (n : Int) < 0:=by omega
   go_enter Tryz.func15,Tryz.ntmps15
   go_wp2_with fail
   go_ret
   exact ⟨-1,rfl,.inl rfl,Below.refl _ _⟩
structure Tm where
 no : Int
 lk : ByteArray
def tmD : Tm:=⟨0,ByteArray.empty⟩
def tmE : Enc Tm:=⟨2,fun e => [.int .i64 e.no,.string e.lk],fun _ => rfl,by intro x v hv;simp at hv;rcases hv with rfl | rfl <;> rfl⟩
theorem toTerm_any (q0 : Int) (q1 : ByteArray) (w : World) :
 Calls Tryz.prog 78 #[.agg #[.int .i64 q0,.string q1]] w fun e w' => e = .returned (.agg #[.int .i64 q0,.string q1]) /\ Below w.heap.size w w':=by
 go_enter Tryz.func78,Tryz.ntmps78
 go_wp2_with fail
 exact bodyPost_ret (v:=.agg #[.int .i64 q0,.string q1]) (by simp [results,Tryz.results78,go_sem]) rfl ⟨rfl,by repeat' (first | exact Below.refl _ _ | refine Below.alloc ?_ (by first | exact Nat.le_refl _ | (simp;done) | (simp;omega)) _ | refine Below.setCell ?_ (by first | exact Nat.le_refl _ | (simp;done) | (simp;omega)) _)⟩
theorem eqTerm_same (q0 : Int) (q1 : ByteArray) (w : World) :
 Calls Tryz.prog 91 #[.agg #[.int .i64 q0,.string q1],.agg #[.int .i64 q0,.string q1]] w fun e w' => e = .returned (.bool true) /\ Below w.heap.size w w':=by
 go_enter Tryz.func91,Tryz.ntmps91
 go_wp2_with fail
 go_ret
 exact ⟨rfl,((Below.refl _ _).alloc (Nat.le_refl _) _).alloc (by simp) _⟩
theorem szTerm_any (q0 : Int) (q1 : ByteArray) (left : Int) (w : World) (hq1 : q1.size <= maxLen) (h0 : 0 <= left) (h1 : left <= 1048576) :
 Calls Tryz.prog 69 #[.agg #[.int .i64 q0,.string q1],.int .i64 left] w fun e w' => ∃ r : Int,e = .returned (.int .i64 r) /\ (r = -1 ∨ (0 <= r /\ r <= left /\ q1.size <= 1048576)) /\ Below w.heap.size w w':=by
 unfold maxLen at hq1
 have HB : Hid (Below w.heap.size w (w.alloc (.cells #[.int .i64 q0,.string q1] 114))):=qH ((Below.refl _ _).alloc (Nat.le_refl _) _)
 have hw0 : IntKind.i64.wrap (left - (q1.size : Int)) = left - (q1.size : Int):=by rw [IntWalk.i64_in _ (by omega)]
 by_cases c0 : left - (q1.size : Int) < 0
 · go_enter Tryz.func69,Tryz.ntmps69
   go_wp2_with fail
   go_ret
   exact ⟨-1,rfl,.inl rfl,HB.out⟩
 · skip
   go_enter Tryz.func69,Tryz.ntmps69
   go_wp2_with fail
   go_ret
   exact ⟨_,rfl,.inr ⟨by omega,by omega,by omega⟩,HB.out⟩
abbrev TmR (w : World) (a : Option Addr) (n cap : Nat) (l : List Tm) : Prop:=SR tmE tmD w a n cap l
theorem TmR.at {w : World} {a : Option Addr} {n cap : Nat} {l : List Tm} (h : TmR w a n cap l) {i : Nat} (hi : i < n) : ∃ g o,a = some ⟨g,o,none⟩ /\ g < w.heap.size /\ w.cell? ⟨g,o + i * 2,none⟩ = some (.int .i64 (l.getD i tmD).no) /\ w.cell? ⟨g,o + i * 2 + 1,none⟩ = some (.string (l.getD i tmD).lk):=by
 obtain ⟨g,o,ha,hg,hc⟩:=h.cells (by omega)
 exact ⟨g,o,ha,hg,hc i hi 0 _ rfl,hc i hi 1 _ rfl⟩
theorem TmR.own {w : World} {base n cap : Nat} {a : Option Addr} {e : TypeId} {l : List Tm} (h : w.ownsRow base e tmE.k (.slice a n cap) n (tmE.flat l)) : TmR w a n cap l:=SR.own (by decide) h
theorem TmR.olen {w : World} {base n cap : Nat} {a : Option Addr} {e : TypeId} {l : List Tm} (h : w.ownsRow base e tmE.k (.slice a n cap) n (tmE.flat l)) : l.length = n:=by
 have:=h.1;rw [tmE.flat_length] at this;exact Nat.eq_of_mul_eq_mul_right (show 0 < tmE.k by decide) this
theorem infoTerm : (Tryz.prog.info? 97).map (fun i => (i.zero,i.size,i.bytes)) = some (some (.agg #[.int .i64 0,.string ByteArray.empty]),2,24):=by kernel_rfl
theorem TmR.set0 {w : World} {base g n cap : Nat} {e : TypeId} {ps : List Tm} (h : w.ownsRow base e tmE.k (.slice (some ⟨g,0,none⟩) n cap) n (tmE.flat ps)) {i : Nat} (hi : i < n) (v : Int) :
 (w.setCell ⟨g,i * 2,none⟩ (.int .i64 v)).ownsRow base e tmE.k (.slice (some ⟨g,0,none⟩) n cap) n (tmE.flat (ps.set i ⟨v,(ps.getD i tmD).lk⟩)) /\ w.grownBy (w.setCell ⟨g,i * 2,none⟩ (.int .i64 v)) (some g):=by
 have hl:=TmR.olen h
 obtain ⟨h1,g1⟩:=h.stored (i * 2) (.int .i64 v)
 have e1 : (tmE.flat ps).set (i * 2) (.int .i64 v) = tmE.flat (ps.set i ⟨v,(ps.getD i tmD).lk⟩):=flat_setX tmE tmD ps i 0 _ _ (by omega) (by decide) rfl
 rw [e1] at h1
 exact ⟨h1,g1⟩
theorem TmR.set1 {w : World} {base g n cap : Nat} {e : TypeId} {ps : List Tm} (h : w.ownsRow base e tmE.k (.slice (some ⟨g,0,none⟩) n cap) n (tmE.flat ps)) {i : Nat} (hi : i < n) (v : ByteArray) :
 (w.setCell ⟨g,i * 2 + 1,none⟩ (.string v)).ownsRow base e tmE.k (.slice (some ⟨g,0,none⟩) n cap) n (tmE.flat (ps.set i ⟨(ps.getD i tmD).no,v⟩)) /\ w.grownBy (w.setCell ⟨g,i * 2 + 1,none⟩ (.string v)) (some g):=by
 have hl:=TmR.olen h
 obtain ⟨h1,g1⟩:=h.stored (i * 2 + 1) (.string v)
 have e1 : (tmE.flat ps).set (i * 2 + 1) (.string v) = tmE.flat (ps.set i ⟨(ps.getD i tmD).no,v⟩):=flat_setX tmE tmD ps i 1 _ _ (by omega) (by decide) rfl
 rw [e1] at h1
 exact ⟨h1,g1⟩
theorem TmR.stored {w : World} {base g n cap : Nat} {e : TypeId} {ps : List Tm} (h : w.ownsRow base e tmE.k (.slice (some ⟨g,0,none⟩) n cap) n (tmE.flat ps)) {i : Nat} (hi : i < n) (q0 : Int) (q1 : ByteArray) :
 ((w.setCell ⟨g,i * 2,none⟩ (.int .i64 q0)).setCell ⟨g,i * 2 + 1,none⟩ (.string q1)).ownsRow base e tmE.k (.slice (some ⟨g,0,none⟩) n cap) n (tmE.flat (ps.set i ⟨q0,q1⟩)) /\ w.grownBy ((w.setCell ⟨g,i * 2,none⟩ (.int .i64 q0)).setCell ⟨g,i * 2 + 1,none⟩ (.string q1)) (some g):=by
 have hl:=TmR.olen h
 have gd : ∀ (p q : Tm),((ps.set i p).set i q) = ps.set i q:=fun p q => by rw [List.set_set]
 have ge : ∀ p : Tm,(ps.set i p).getD i tmD = p:=fun p => by simp [List.getD,show i < ps.length by omega]
 have h0:=TmR.set0 h hi q0
 have h1:=TmR.set1 h0.1 hi q1
 rw [gd,ge] at h1
 exact ⟨h1.1,(grown_trans h0.2 h1.2)⟩
theorem eqTermS_same (a b : Option Addr) (n cap cbp : Nat) (l : List Tm) (w : World) (h : TmR w a n cap l) (k : TmR w b n cbp l) (hn : n <= 1048576) :
 Calls Tryz.prog 64 #[.slice a n cap,.slice b n cbp] w fun e w' => e = .returned (.bool true) /\ Below w.heap.size w w':=by
 go_enter Tryz.func64,Tryz.ntmps64
 go_wp2_with fail
 go_loopw [5] (fun i wr => ∃ j : Nat,j <= n /\ i = .int .i64 j /\ Below w.heap.size w wr) (fun i _ => n - (intOf i).toNat)
 case atStart => exact ⟨0,Nat.zero_le _,rfl,Below.refl _ _⟩
 case round =>
  obtain ⟨j,hj,rfl,hB⟩:=hrel
  have HB:=qH hB.drew
  by_cases hlt : j < n
  · obtain ⟨g,o,rfl,hg,hc0,hc1⟩:=h.at hlt
    obtain ⟨g',o',rfl,hg',hd0,hd1⟩:=k.at hlt
    have a0:=(hB.cell (p:=⟨g,o + j * 2,none⟩) hg).trans hc0
    have a1:=(hB.cell (p:=⟨g,o + j * 2 + 1,none⟩) hg).trans hc1
    have b0:=(hB.cell (p:=⟨g',o' + j * 2,none⟩) hg').trans hd0
    have b1:=(hB.cell (p:=⟨g',o' + j * 2 + 1,none⟩) hg').trans hd1
    generalize (l.getD j tmD).no = q0 at *
    generalize (l.getD j tmD).lk = q1 at *
    clear hc0 hc1 hd0 hd1 h k hB
    go_wp2_with fail
    go_still_tail 8,(by kernel_rfl)
    change wpList _ _ _ _ _ wr.drew
    clear a0 a1 b0 b1
    generalize wr.drew = we at *
    go_wp2_with fail
    refine (eqTerm_same q0 q1 _).mono ?_
    rintro e w5 ⟨rfl,hb⟩
    have HB5:=qH (HB.out.trans (hb.mono HB.out.size))
    clear hb
    go_wp2_with fail
    go_roundw
    case rel => exact ⟨j + 1,by omega,by go_num,HB5.out⟩
    case measure => simp [intOf] <;> omega
  · obtain rfl : j = n:=by omega
    have HB2:=qH hB
    clear h k hB
    go_wp2_with fail
    go_ret
    exact ⟨rfl,HB2.out⟩
theorem toTermS_any (a : Option Addr) (n cap : Nat) (ps : List Tm) (w : World) (h : TmR w a n cap ps) (hn : n <= 1048576) :
 Calls Tryz.prog 51 #[.slice a n cap] w fun e w' => ∃ a' cap',e = .returned (.slice a' n cap') /\ w'.ownsRow w.heap.size 97 tmE.k (.slice a' n cap') n (tmE.flat ps) /\ Below w.heap.size w w':=by
 obtain ⟨i0,hi,hz0,hz1,hz2⟩:=info_parts infoTerm
 have hl:=h.len
 go_enter Tryz.func51,Tryz.ntmps51
 go_wp2_with (at_make;refine wpList_make_full _ rfl (.tmp 6) (.tmp 6) 40 rfl w.heap.size 97 i0 (.agg #[.int .i64 0,.string ByteArray.empty]) 2 Tryz.underlying40 hi hz0 hz1 .i64 .i64 _ _ n rfl rfl rfl rfl (by rw [hz2];omega) (by unfold maxLen;omega) (Nat.le_refl _) ?_;intro w4 hown4 hg4;rw [show (madeCells (Value.agg #[Value.int .i64 0,Value.string ByteArray.empty]).cells (n * 2)).toList = tmE.flat (List.replicate n tmD) from made_enc tmE tmD n rfl (by decide)] at hown4)
 have HB4 : Hid (Below w.heap.size w w4):=qH ((Below.refl _ w).grown hg4 (Nat.le_refl _) (fun k hk => by cases hk))
 have HO4 : Hid (w4.ownsRow w.heap.size 97 tmE.k (.slice (some ⟨w.heap.size,0,none⟩) n n) n (tmE.flat (List.replicate n tmD))):=qH hown4
 clear hg4 hown4
 go_loopw [4] (fun i wr => ∃ k : Nat,k <= n /\ i = .int .i64 k /\ wr.ownsRow w.heap.size 97 tmE.k (.slice (some ⟨w.heap.size,0,none⟩) n n) n (tmE.flat (mixX ps (List.replicate n tmD) k)) /\ Below w.heap.size w wr) (fun i _ => n - (intOf i).toNat)
 case atStart => exact ⟨0,Nat.zero_le _,rfl,by rw [mixX_zero];exact HO4.out,HB4.out⟩
 case round =>
  obtain ⟨k,hk,rfl,hown,hB⟩:=hrel
  by_cases hlt : k < n
  · obtain ⟨g,o,rfl,hg,hc0,hc1⟩:=h.at hlt
    have a0:=(hB.cell (p:=⟨g,o + k * 2,none⟩) hg).trans hc0
    have a1:=(hB.cell (p:=⟨g,o + k * 2 + 1,none⟩) hg).trans hc1
    have HO:=qH hown
    have HB:=qH hB
    have HM:=qH (mixX_set tmD (zs:=ps) (ys:=List.replicate n tmD) (k:=k) (by rw [List.length_replicate,hl]) (by omega))
    have hpe : ps.getD k tmD = ⟨(ps.getD k tmD).no,(ps.getD k tmD).lk⟩:=rfl
    rw [hpe] at HM
    generalize (ps.getD k tmD).no = q0 at *
    generalize (ps.getD k tmD).lk = q1 at *
    clear hown hB hc0 hc1 hpe HB4
    go_wp2_with fail
    refine (toTerm_any q0 q1 _).mono ?_
    rintro e w5 ⟨rfl,hb⟩
    have hown:=own_below HO.out hb
    have hB:=HB.out.trans (hb.mono HB.out.size)
    have hs:=TmR.stored hown hlt q0 q1
    rw [HM.out] at hs
    have HS:=qH hs.1
    have HB5:=qH ((hB.setCell (Nat.le_refl _) (p:=⟨w.heap.size,k * 2,none⟩) (.int .i64 q0)).setCell (Nat.le_refl _) (p:=⟨w.heap.size,k * 2 + 1,none⟩) (.string q1))
    obtain ⟨g',o',hge,_,hd0,hd1⟩:=(TmR.own hown).at hlt
    simp only [Option.some.injEq,Addr.mk.injEq,and_true] at hge
    obtain ⟨rfl,rfl⟩:=hge
    rw [Nat.zero_add] at hd0 hd1
    have f0:=hown.frozenAt (k * 2)
    have f1:=hown.frozenAt (k * 2 + 1)
    clear hs hown hB hb HO HB HM a0 a1
    go_wp2_with fail
    go_roundw
    case rel => exact ⟨k + 1,by omega,by go_num,HS.out,HB5.out⟩
    case measure => simp [intOf] <;> omega
  · obtain rfl : k = n:=by omega
    have hm : mixX ps (List.replicate k tmD) k = ps:=by rw [<- hl];exact mixX_all (by simp)
    rw [hm] at hown
    have HO:=qH hown
    have HB:=qH hB
    clear hown hB
    go_wp2_with fail
    go_ret
    exact ⟨_,_,rfl,HO.out,HB.out⟩
def LeftTerm (n : Nat) (l : List Tm) (left : Int) (w : World) (e : Ending) (w' : World) : Prop :=
 ∃ r : Int,e = .returned (.int .i64 r) /\ ((r = -1) ∨ (0 <= r /\ r <= left /\ n <= 1048576 /\ ∀ t,t < n -> (l.getD t tmD).lk.size <= 1048576)) /\ Below w.heap.size w w'
theorem szTermS_any (a : Option Addr) (n cap : Nat) (l : List Tm) (left : Int) (w : World) (h : TmR w a n cap l) (hn : n <= 9223372036854775807) (hs : ∀ t,t < n -> (l.getD t tmD).lk.size <= maxLen) (hl0 : 0 <= left) (hl1 : left <= 1048576) :
 Calls Tryz.prog 38 #[.slice a n cap,.int .i64 left] w (LeftTerm n l left w):=by
 have hw : IntKind.i64.wrap (left - (n : Int)) = left - (n : Int):=by rw [IntWalk.i64_in _ (by omega)]
 have HS:=qH hs
 clear hs
 by_cases hn1 : (n : Int) <= left
 · have h2 : ¬ left - (n : Int) < 0:=by omega
   have hn2 : n <= 1048576:=by omega
   go_enter Tryz.func38,Tryz.ntmps38
   go_wp2_with fail
   go_loopw [1,5] (fun q i wr => ∃ (j : Nat) (r : Int),j <= n /\ i = .int .i64 j /\ q = .int .i64 r /\ 0 <= r /\ r <= left /\ Hid (∀ t,t < j -> (l.getD t tmD).lk.size <= 1048576) /\ Below w.heap.size w wr) (fun _ i _ => n - (intOf i).toNat)
   case atStart => exact ⟨0,_,Nat.zero_le _,rfl,rfl,by omega,by omega,qH (fun t ht => absurd ht (by omega)),Below.refl _ _⟩
   case round =>
    obtain ⟨j,r,hj,rfl,rfl,hr0,hr1,HA,hB⟩:=hrel
    by_cases hlt : j < n
    · obtain ⟨g,o,rfl,hg,hc0,hc1⟩:=h.at hlt
      have a0:=(hB.cell (p:=⟨g,o + j * 2,none⟩) hg).trans hc0
      have a1:=(hB.cell (p:=⟨g,o + j * 2 + 1,none⟩) hg).trans hc1
      have hsj:=HS.out j hlt
      have HA2 : Hid (((l.getD j tmD).lk.size <= 1048576) -> ∀ t,t < j + 1 -> (l.getD t tmD).lk.size <= 1048576):=qH (fun hx t ht => by
       by_cases e : t = j
       · rw [e];exact hx
       · exact HA.out t (by omega))
      have HB:=qH hB
      generalize (l.getD j tmD).no = q0 at *
      generalize (l.getD j tmD).lk = q1 at *
      clear hc0 hc1 hB
      go_wp2_with fail
      refine (szTerm_any q0 q1 r _ hsj hr0 (by omega)).mono ?_
      rintro e w5 ⟨r',rfl,hr,hb⟩
      have HB5:=qH (HB.out.trans (hb.mono HB.out.size))
      clear hb a0 a1
      rcases hr with rfl | ⟨hp0,hp1,hps⟩
      · go_wp2_with fail
        go_ret
        exact ⟨-1,rfl,.inl rfl,HB5.out⟩
      · have hnn : ¬ r' < 0:=by omega
        have HA3:=qH (HA2.out hps)
        clear hps
        go_wp2_with fail
        go_roundw
        case rel => exact ⟨j + 1,r',by omega,by go_num,rfl,hp0,by omega,HA3,HB5.out⟩
        case measure => simp [intOf] <;> omega
    · obtain rfl : j = n:=by omega
      have HB:=qH hB
      clear hB
      go_wp2_with fail
      go_ret
      exact ⟨r,rfl,.inr ⟨hr0,hr1,hn2,HA.out⟩,HB.out⟩
 · have h2 : left - (n : Int) < 0:=by omega
   go_enter Tryz.func38,Tryz.ntmps38
   go_wp2_with fail
   go_ret
   exact ⟨-1,rfl,.inl rfl,Below.refl _ _⟩
def mkTm (k j : Nat) : Tm:=⟨(k : Int) + 2 * (j : Int),mkt (k + 2 * j + 1)⟩
def marksTm (k n : Nat) : List Tm:=(List.range n).map (mkTm k)
theorem marksTm_length (k n : Nat) : (marksTm k n).length = n:=by simp [marksTm]
theorem marksTm_getD {k n j : Nat} (h : j < n) : (marksTm k n).getD j tmD = mkTm k j:=by simp [marksTm,List.getD,h]
theorem markTermS_any (a : Option Addr) (base n cap : Nat) (zs : List Tm) (k0 : Nat) (w : World) (h : w.ownsRow base 97 tmE.k (.slice a n cap) n (tmE.flat zs)) (hn : n <= 1048576) (hk0 : 0 < k0) (hk1 : k0 <= 1099511627776) :
 Calls Tryz.prog 67 #[.slice a n cap,.int .i64 (k0 : Int)] w fun e w' => e = .returned (.int .i64 ((k0 : Int) + 2 * (n : Int))) /\ w'.ownsRow base 97 tmE.k (.slice a n cap) n (tmE.flat (marksTm k0 n)) /\ w.grownBy w' (Value.slice a n cap).ownBlock:=by
 have hl:=TmR.olen h
 have HML:=qH (marksTm_length k0 n)
 have HZL:=qH hl
 clear hl
 go_enter Tryz.func67,Tryz.ntmps67
 go_wp2_with fail
 go_loopw [1,5] (fun k i wr => ∃ j : Nat,j <= n /\ i = .int .i64 j /\ k = .int .i64 ((k0 : Int) + 2 * (j : Int)) /\ wr.ownsRow base 97 tmE.k (.slice a n cap) n (tmE.flat (mixX (marksTm k0 n) zs j)) /\ w.grownBy wr (Value.slice a n cap).ownBlock) (fun _ i _ => n - (intOf i).toNat)
 case atStart => exact ⟨0,Nat.zero_le _,rfl,by simp,by rw [mixX_zero];exact h,⟨rfl,rfl,rfl,Nat.le_refl _,fun _ _ _ => rfl⟩⟩
 case round =>
  obtain ⟨j,hj,rfl,rfl,hown,hg⟩:=hrel
  by_cases hlt : j < n
  · obtain ⟨g,c,hv,_,hgl⟩:=hown.form (by omega)
    simp only [Value.slice.injEq] at hv
    obtain ⟨rfl,_,rfl⟩:=hv
    have HMT1 : Hid (∀ (r : Int) (u : World),r = (k0 : Int) + 2 * (j : Int) + 1 -> Calls Tryz.prog 37 #[.int .i64 r] u fun e w' => e = .returned (.string (mkt (k0 + 2 * j + 1))) /\ Below u.heap.size u w'):=qH (fun r u hr => by
     have hm:=markText_any (k0 + 2 * j + 1) (w:=u) (by omega) (by omega)
     rwa [show ((k0 + 2 * j + 1 : Nat) : Int) = r by omega] at hm)
    have HST:=qH (mixX_set tmD (zs:=marksTm k0 n) (ys:=zs) (k:=j) (by rw [HML.out,HZL.out]) (by rw [HML.out];exact hlt))
    rw [marksTm_getD hlt] at HST
    have HMJ : Hid (j < (mixX (marksTm k0 n) zs j).length):=qH (by rw [mixX_length (by rw [HML.out,HZL.out]),HML.out];exact hlt)
    have gd : ∀ (ps : List Tm) (p q : Tm),((ps.set j p).set j q) = ps.set j q:=fun ps p q => by rw [List.set_set]
    have ge : ∀ p : Tm,((mixX (marksTm k0 n) zs j).set j p).getD j tmD = p:=fun p => by simp [List.getD,HMJ.out]
    have GD:=qH gd
    have GE:=qH ge
    clear gd ge h
    have HO0:=qH hown
    have HG0:=qH hg
    clear hown hg
    obtain ⟨g',o',hge,_,x0,x1⟩:=(TmR.own HO0.out).at hlt
    simp only [Option.some.injEq,Addr.mk.injEq,and_true] at hge
    obtain ⟨rfl,rfl⟩:=hge
    rw [Nat.zero_add] at x0 x1
    have y0:=HO0.out.frozenAt (j * 2)
    clear x1
    have s0:=TmR.set0 HO0.out hlt ((k0 : Int) + 2 * (j : Int))
    have HO1:=qH s0.1
    have HG1:=qH (grown_trans HG0.out s0.2)
    clear s0
    go_wp2_with fail
    clear x0 y0
    refine (HMT1.out _ _ (by omega)).mono ?_
    rintro e w5 ⟨rfl,hb⟩
    have hown5:=own_below HO1.out hb
    have hg5:=grown_trans HG1.out (fg_below hb)
    clear hb HO1 HG1
    obtain ⟨g',o',hge,_,x0,x1⟩:=(TmR.own hown5).at hlt
    simp only [Option.some.injEq,Addr.mk.injEq,and_true] at hge
    obtain ⟨rfl,rfl⟩:=hge
    rw [Nat.zero_add] at x0 x1
    have y1:=hown5.frozenAt (j * 2 + 1)
    clear x0
    have s1:=TmR.set1 hown5 hlt (mkt (k0 + 2 * j + 1))
    rw [GD.out,GE.out] at s1
    have HO2:=qH s1.1
    have HG2:=qH (grown_trans hg5 s1.2)
    clear s1
    clear hown5 hg5
    go_wp2_with fail
    go_roundw
    case rel => exact ⟨j + 1,by omega,by go_num,by go_num,by rw [<- HST.out];exact HO2.out,HG2.out⟩
    case measure => simp [intOf] <;> omega
  · obtain rfl : j = n:=by omega
    have hm : mixX (marksTm k0 j) zs j = marksTm k0 j:=by
     have:=mixX_all (zs:=marksTm k0 j) (ys:=zs) (by rw [HML.out,HZL.out])
     rwa [HML.out] at this
    rw [hm] at hown
    have HO:=qH hown
    have HG:=qH hg
    clear hown hg hm h
    go_wp2_with fail
    go_ret
    exact ⟨rfl,HO.out,HG.out⟩
end Go.Proofs.YthkbcjnbmciolaaGreatDoor
