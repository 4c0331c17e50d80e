/- Used by the law. -/
import Derived.Test.YtbgoldeopmlbnaaGreatDoorQB12
set_option maxRecDepth 100000
set_option maxHeartbeats 16000000
namespace Go.Proofs.YtbgoldeopmlbnaaGreatDoor
open Go.RowKit Go.PlainAid G IRow
set_option linter.unusedVariables false
def atI (is : List Im) (nm : ByteArray) : Nat:=is.findIdx (fun x => !ltS x.nm nm)
theorem atI_eq {is : List Im} {nm : ByteArray} {k : Nat} (hk : k <= is.length) (ha : ∀ i,i < k -> ltS (is.getD i imD).nm nm = true) (he : k = is.length ∨ ltS (is.getD k imD).nm nm = false) : atI is nm = k:=by
 unfold atI
 rcases Nat.lt_or_ge k is.length with h | h
 · rw [List.findIdx_eq h]
   have e : is.getD k imD = is[k]:=by simp [List.getD,List.getElem?_eq_getElem h]
   refine ⟨?_,fun j hj => ?_⟩
   · rcases he with he | he
     · omega
     · rw [e] at he;rw [he];rfl
   · have h2:=ha j hj
     have e2 : is.getD j imD = is[j]:=by simp [List.getD,List.getElem?_eq_getElem (show j < is.length by omega)]
     rw [e2] at h2
     rw [h2];rfl
 · obtain rfl : k = is.length:=by omega
   rw [List.findIdx_eq_length]
   intro x hx
   obtain ⟨i,hi,rfl⟩:=List.mem_iff_getElem.1 hx
   have h2:=ha i hi
   have e2 : is.getD i imD = is[i]:=by simp [List.getD,List.getElem?_eq_getElem hi]
   rw [e2] at h2
   rw [h2];rfl
theorem atI_le (is : List Im) (nm : ByteArray) : atI is nm <= is.length:=List.findIdx_le_length
theorem l07At_any (a : Option Addr) (n cap : Nat) (is : List Im) (nm : ByteArray) (w : World) (h : ImR w a n cap is) (hn : n <= 1048576) :
 Calls Tryz.prog 102 #[.slice a n cap,.string nm] w fun e w' => e = .returned (.int .i64 (atI is nm : Nat)) /\ w = w':=by
 have hl : is.length = n:=h.len
 go_enter Tryz.func102,Tryz.ntmps102
 go_wp2_with fail
 go_loop [5] (fun i => ∃ k : Nat,k <= n /\ i = .int .i64 k /\ Hid (∀ i,i < k -> ltS (is.getD i imD).nm nm = true)) (fun i => n - (intOf i).toNat)
 case atStart => exact ⟨0,Nat.zero_le _,rfl,qH (fun i hi => absurd hi (Nat.not_lt_zero _))⟩
 case round =>
  obtain ⟨k,hk,rfl,HA⟩:=hrel
  by_cases hlt : k < n
  · obtain ⟨g,o,rfl,hg,t0,t1,t2⟩:=h.at hlt
    have hin : 0 <= (k : Int) /\ (k : Int) < (n : Int):=by omega
    cases hv : ltS (is.getD k imD).nm nm
    · have HF:=qH (atI_eq (by omega) HA.out (.inr hv))
      have hlx : Op.bytesLess (is.getD k imD).nm.toList nm.toList = false:=hv
      clear hv h
      generalize (is.getD k imD).nm = pm at *
      go_wp2_with fail
      go_ret
      exact ⟨ret_int (by rw [HF.out]),rfl⟩
    · have HA2 : Hid (∀ i,i < k + 1 -> ltS (is.getD i imD).nm nm = true):=qH (fun i hi => by
       by_cases e : i = k
       · rw [e];exact hv
       · exact HA.out i (by omega))
      have hlx : Op.bytesLess (is.getD k imD).nm.toList nm.toList = true:=hv
      clear hv h
      generalize (is.getD k imD).nm = pm at *
      go_wp2_with fail
      go_round
      case rel => exact ⟨k + 1,by omega,by go_num,HA2⟩
      case measure => simp [intOf];omega
  · obtain rfl : n = k:=by omega
    have HF:=qH (atI_eq (by omega) HA.out (.inl hl.symm))
    go_wp2_with fail
    go_ret
    exact ⟨ret_int (by rw [HF.out]),rfl⟩
theorem l07Ill_any (c : Int) (w : World) :
 Calls Tryz.prog 45 #[.int .i64 c] w fun e w' => e = .returned (.agg #[.int .i64 0,.int .i64 0,.int .i64 0,.int .i64 0,.slice none 0 0,.slice none 0 0,.int .i64 c]) /\ Below w.heap.size w w':=by
 go_enter Tryz.func45,Tryz.ntmps45
 go_wp2_with fail
 exact bodyPost_ret (v:=.agg #[.int .i64 0,.int .i64 0,.int .i64 0,.int .i64 0,.slice none 0 0,.slice none 0 0,.int .i64 c]) (by simp [results,Tryz.results45,go_sem]) rfl ⟨rfl,by repeat' (first | exact Below.refl _ _ | refine Below.alloc ?_ (by first | exact Nat.le_refl _ | (simp;done) | (simp;omega)) _ | refine Below.setCell ?_ (by first | exact Nat.le_refl _ | (simp;done) | (simp;omega)) _)⟩
def hasI (is : List Im) (nm : ByteArray) : Bool:=decide (atI is nm < is.length) && decide ((is.getD (atI is nm) imD).nm = nm)
def imOf (d : Dd) : Im:=⟨d.nm,d.tm,d.bd⟩
def itemsL (is : List Im) (d : Dd) : List Im:=is.take (atI is d.nm) ++ ((if d.kd = 3 then [imOf d] else []) ++ is.drop (if hasI is d.nm = true then atI is d.nm + 1 else atI is d.nm))
def bk0 : Bk:=⟨0,0,0,0,[],[]⟩
def itemsR (b : Bk) (d : Dd) : Bk × Int :=
 if d.kd = 3 /\ (b.ts.length : Int) < d.tm then (bk0,6)
 else if d.kd = 3 /\ hasI b.is d.nm = false /\ 8 <= b.is.length then (bk0,9)
 else if d.kd = 4 /\ hasI b.is d.nm = false then (bk0,6)
 else (⟨b.c0,b.c1,b.c2,b.c3,b.ts,itemsL b.is d⟩,0)
def NewBookOut (r : Bk × Int) (w : World) (e : Ending) (w' : World) : Prop :=
 ∃ a1 n1 a3 a2 n2 a4,e = .returned (.agg #[.int .i64 r.1.c0,.int .i64 r.1.c1,.int .i64 r.1.c2,.int .i64 r.1.c3,.slice a1 n1 a3,.slice a2 n2 a4,.int .i64 r.2]) /\ BkO w' w.heap.size a1 n1 a3 a2 n2 a4 r.1.ts r.1.is /\ Below w.heap.size w w'
theorem toList_eqb (a b : ByteArray) : (a.toList == b.toList) = decide (a = b):=by
 by_cases h : a = b
 · subst h;simp
 · rw [decide_eq_false h,beq_eq_false_iff_ne]
   exact fun h2 => h ((toList_iff a b).1 h2)
theorem l07Items_code (c0 c1 c2 c3 : Int) (ts : List Tm) (is : List Im) (q0 q1 q2 q3 q4 q5 : Int) (q6 q7 : ByteArray) (q8 : Int) (q9 : ByteArray) (a1 a2 : Option Addr) (n1 n2 a3 a4 : Nat) (w : World) (h : BkR w a1 n1 a3 a2 n2 a4 ts is) (hn1 : n1 <= 5) (hn2 : n2 <= 8) (hbad : (q0 = 3 /\ (n1 : Int) < q8) ∨ (q0 = 3 /\ ¬ (n1 : Int) < q8 /\ hasI is q7 = false /\ 8 <= n2) ∨ (q0 = 4 /\ hasI is q7 = false)) :
 Calls Tryz.prog 85 #[.agg #[.int .i64 c0,.int .i64 c1,.int .i64 c2,.int .i64 c3,.slice a1 n1 a3,.slice a2 n2 a4],.agg #[.int .i64 q0,.int .i64 q1,.int .i64 q2,.int .i64 q3,.int .i64 q4,.int .i64 q5,.string q6,.string q7,.int .i64 q8,.string q9]] w (NewBookOut (itemsR ⟨c0,c1,c2,c3,ts,is⟩ ⟨q0,q1,q2,q3,q4,q5,q6,q7,q8,q9⟩) w):=by
 have hl1 : ts.length = n1:=h.t.len
 have hl2 : is.length = n2:=h.i.len
 obtain ⟨W,hW⟩ : ∃ W,W = ((w.alloc (.cells #[.int .i64 c0,.int .i64 c1,.int .i64 c2,.int .i64 c3,.slice a1 n1 a3,.slice a2 n2 a4] 28)).alloc (.cells #[.int .i64 q0,.int .i64 q1,.int .i64 q2,.int .i64 q3,.int .i64 q4,.int .i64 q5,.string q6,.string q7,.int .i64 q8,.string q9] 34)).alloc (.cells #[.int .i64 0,.int .i64 0,.int .i64 0,.int .i64 0,.slice none 0 0,.slice none 0 0,.int .i64 0] 46):=⟨_,rfl⟩
 have HB0 : Hid (Below w.heap.size w W):=qH (by rw [hW];repeat' (first | exact Below.refl _ _ | refine Below.alloc ?_ (by first | exact Nat.le_refl _ | (simp;done) | (simp;omega)) _))
 have HAb : Hid (BoxC W w.heap.size [.int .i64 c0,.int .i64 c1,.int .i64 c2,.int .i64 c3,.slice a1 n1 a3,.slice a2 n2 a4]):=qH (by rw [hW];exact ((BoxC.made _ _ _).alloc _).alloc _)
 have HAd : Hid (BoxC W (w.heap.size + 1) [.int .i64 q0,.int .i64 q1,.int .i64 q2,.int .i64 q3,.int .i64 q4,.int .i64 q5,.string q6,.string q7,.int .i64 q8,.string q9]):=qH (by rw [hW];have:=(BoxC.made (w.alloc (.cells #[.int .i64 c0,.int .i64 c1,.int .i64 c2,.int .i64 c3,.slice a1 n1 a3,.slice a2 n2 a4] 28)) #[.int .i64 q0,.int .i64 q1,.int .i64 q2,.int .i64 q3,.int .i64 q4,.int .i64 q5,.string q6,.string q7,.int .i64 q8,.string q9] 34).alloc (.cells #[.int .i64 0,.int .i64 0,.int .i64 0,.int .i64 0,.slice none 0 0,.slice none 0 0,.int .i64 0] 46);rwa [World.size_alloc] at this)
 have HAr : Hid (BoxC W (w.heap.size + 1 + 1) [.int .i64 0,.int .i64 0,.int .i64 0,.int .i64 0,.slice none 0 0,.slice none 0 0,.int .i64 0]):=qH (by rw [hW];have:=BoxC.made ((w.alloc (.cells #[.int .i64 c0,.int .i64 c1,.int .i64 c2,.int .i64 c3,.slice a1 n1 a3,.slice a2 n2 a4] 28)).alloc (.cells #[.int .i64 q0,.int .i64 q1,.int .i64 q2,.int .i64 q3,.int .i64 q4,.int .i64 q5,.string q6,.string q7,.int .i64 q8,.string q9] 34)) #[.int .i64 0,.int .i64 0,.int .i64 0,.int .i64 0,.slice none 0 0,.slice none 0 0,.int .i64 0] 46;rwa [World.size_alloc,World.size_alloc] at this)
 have HR:=qH h
 have hat:=atI_le is q7
 obtain ⟨k,hk⟩ : ∃ k,k = atI is q7:=⟨_,rfl⟩
 have HK:=qH hk
 rw [<- hk] at hat
 clear h hk
 go_enter Tryz.func85,Tryz.ntmps85
 go_wp2_with fail
 rw [<- hW]
 clear hW
 refine (l07At_any a2 n2 a4 is q7 _ (HR.out.below HB0.out).i (by omega)).mono ?_
 rintro e w1 ⟨rfl,rfl⟩
 rw [<- HK.out]
 have x5:=HAb.out.cell 5 _ rfl
 have d7:=HAd.out.cell 7 _ rfl
 have d0:=HAd.out.cell 0 _ rfl
 have d8:=HAd.out.cell 8 _ rfl
 have x4:=HAb.out.cell 4 _ rfl
 by_cases hlt : k < n2
 · obtain ⟨g,o,ha2,hg,t0,_,_⟩:=(HR.out.below HB0.out).i.at hlt
   subst ha2
   have hin : 0 <= (k : Int) /\ (k : Int) < (n2 : Int):=by omega
   have hlk : (k : Int) < (n2 : Int):=by omega
   cases hnm : decide ((is.getD k imD).nm = q7)
   · have HHAS : Hid (hasI is q7 = false):=qH (by unfold hasI;rw [<- HK.out,hnm,Bool.and_false])
     have hne:=(toList_eqb (is.getD k imD).nm q7).trans hnm
     generalize (is.getD k imD).nm = pm at *
     go_wp2_with fail
     go_quiet (fail)
     rcases hbad with ⟨rfl,htm⟩ | ⟨rfl,htm,hh,h8⟩ | ⟨rfl,hh⟩
     · skip
       have HRR : Hid (itemsR ⟨c0,c1,c2,c3,ts,is⟩ ⟨3,q1,q2,q3,q4,q5,q6,q7,q8,q9⟩ = (bk0,6)):=qH (by unfold itemsR;rw [if_pos ⟨rfl,by dsimp only;rw [hl1];exact htm⟩])
       have HF : Hid (itemsR ⟨c0,c1,c2,c3,ts,is⟩ ⟨3,q1,q2,q3,q4,q5,q6,q7,q8,q9⟩ = (bk0,6)):=qH (HRR.out)
       go_wp2_with fail
       refine (l07Ill_any 6 _).mono ?_
       rintro e w2 ⟨rfl,hb⟩
       have hX:=BoxC.below (⟨HAr.out.lt,HAr.out.cell,HAr.out.free⟩ : BoxC (W.drewN _) (w.heap.size + 1 + 1) _) hb
       have hB:=Below.trans (show Below w.heap.size w (W.drewN _) from ⟨HB0.out.os,HB0.out.tape,HB0.out.output,HB0.out.size,HB0.out.block⟩) (hb.mono HB0.out.size)
       have e0:=hX.cell 0 _ rfl
       have f0:=hX.free 0
       have e1:=hX.cell 1 _ rfl
       have f1:=hX.free 1
       have e2:=hX.cell 2 _ rfl
       have f2:=hX.free 2
       have e3:=hX.cell 3 _ rfl
       have f3:=hX.free 3
       have e4:=hX.cell 4 _ rfl
       have f4:=hX.free 4
       have e5:=hX.cell 5 _ rfl
       have f5:=hX.free 5
       have e6:=hX.cell 6 _ rfl
       have f6:=hX.free 6
       have hY:=(((((((hX.set (j:=0) (by simp) (.int .i64 0)).set (j:=1) (by simp) (.int .i64 0)).set (j:=2) (by simp) (.int .i64 0)).set (j:=3) (by simp) (.int .i64 0)).set (j:=4) (by simp) (.slice none 0 0)).set (j:=5) (by simp) (.slice none 0 0)).set (j:=6) (by simp) (.int .i64 6))
       have HYB:=qH (((((((hB.setCell (p:=⟨w.heap.size + 1 + 1,0,none⟩) (by dsimp only;omega) (.int .i64 0)).setCell (p:=⟨w.heap.size + 1 + 1,1,none⟩) (by dsimp only;omega) (.int .i64 0)).setCell (p:=⟨w.heap.size + 1 + 1,2,none⟩) (by dsimp only;omega) (.int .i64 0)).setCell (p:=⟨w.heap.size + 1 + 1,3,none⟩) (by dsimp only;omega) (.int .i64 0)).setCell (p:=⟨w.heap.size + 1 + 1,4,none⟩) (by dsimp only;omega) (.slice none 0 0)).setCell (p:=⟨w.heap.size + 1 + 1,5,none⟩) (by dsimp only;omega) (.slice none 0 0)).setCell (p:=⟨w.heap.size + 1 + 1,6,none⟩) (by dsimp only;omega) (.int .i64 6))
       obtain ⟨Y,hYd⟩ : ∃ Y,Y = ((((((w2.setCell ⟨w.heap.size + 1 + 1,0,none⟩ (.int .i64 0)).setCell ⟨w.heap.size + 1 + 1,1,none⟩ (.int .i64 0)).setCell ⟨w.heap.size + 1 + 1,2,none⟩ (.int .i64 0)).setCell ⟨w.heap.size + 1 + 1,3,none⟩ (.int .i64 0)).setCell ⟨w.heap.size + 1 + 1,4,none⟩ (.slice none 0 0)).setCell ⟨w.heap.size + 1 + 1,5,none⟩ (.slice none 0 0)).setCell ⟨w.heap.size + 1 + 1,6,none⟩ (.int .i64 6):=⟨_,rfl⟩
       rw [<- hYd] at hY HYB
       have g0:=hY.cell 0 _ rfl
       have g1:=hY.cell 1 _ rfl
       have g2:=hY.cell 2 _ rfl
       have g3:=hY.cell 3 _ rfl
       have g4:=hY.cell 4 _ rfl
       have g5:=hY.cell 5 _ rfl
       have g6:=hY.cell 6 _ rfl
       have HG:=qH (And.intro g0 (And.intro g1 (And.intro g2 (And.intro g3 (And.intro g4 (And.intro g5 g6))))))
       clear hb hX hB hY g0 g1 g2 g3 g4 g5 g6
       go_wp2_with fail
       rw [<- hYd]
       obtain ⟨g0,g1,g2,g3,g4,g5,g6⟩:=HG.out
       clear hYd e0 f0 e1 f1 e2 f2 e3 f3 e4 f4 e5 f5 e6 f6
       rw [HF.out]
       exact bodyPost_ret (v:=.agg #[.int .i64 0,.int .i64 0,.int .i64 0,.int .i64 0,.slice none 0 0,.slice none 0 0,.int .i64 6]) (by simp [results,Tryz.results85,go_sem,g0,g1,g2,g3,g4,g5,g6]) rfl ⟨none,0,0,none,0,0,rfl,⟨World.ownsRow_nil _ _ _ _,World.ownsRow_nil _ _ _ _⟩,HYB.out⟩
     · skip
       have HRR : Hid (itemsR ⟨c0,c1,c2,c3,ts,is⟩ ⟨3,q1,q2,q3,q4,q5,q6,q7,q8,q9⟩ = (bk0,9)):=qH (by unfold itemsR;rw [if_neg (fun h => by have:=h.2;dsimp only at this;rw [hl1] at this;omega),if_pos ⟨rfl,hh,by dsimp only;omega⟩])
       have htm2 : decide ((n1 : Int) < q8) = false:=decide_eq_false (by omega)
       have hn8 : (8 : Int) <= (n2 : Int):=by omega
       have HF : Hid (itemsR ⟨c0,c1,c2,c3,ts,is⟩ ⟨3,q1,q2,q3,q4,q5,q6,q7,q8,q9⟩ = (bk0,9)):=qH (HRR.out)
       go_wp2_with fail
       refine (l07Ill_any 9 _).mono ?_
       rintro e w2 ⟨rfl,hb⟩
       have hX:=BoxC.below (⟨HAr.out.lt,HAr.out.cell,HAr.out.free⟩ : BoxC (W.drewN _) (w.heap.size + 1 + 1) _) hb
       have hB:=Below.trans (show Below w.heap.size w (W.drewN _) from ⟨HB0.out.os,HB0.out.tape,HB0.out.output,HB0.out.size,HB0.out.block⟩) (hb.mono HB0.out.size)
       have e0:=hX.cell 0 _ rfl
       have f0:=hX.free 0
       have e1:=hX.cell 1 _ rfl
       have f1:=hX.free 1
       have e2:=hX.cell 2 _ rfl
       have f2:=hX.free 2
       have e3:=hX.cell 3 _ rfl
       have f3:=hX.free 3
       have e4:=hX.cell 4 _ rfl
       have f4:=hX.free 4
       have e5:=hX.cell 5 _ rfl
       have f5:=hX.free 5
       have e6:=hX.cell 6 _ rfl
       have f6:=hX.free 6
       have hY:=(((((((hX.set (j:=0) (by simp) (.int .i64 0)).set (j:=1) (by simp) (.int .i64 0)).set (j:=2) (by simp) (.int .i64 0)).set (j:=3) (by simp) (.int .i64 0)).set (j:=4) (by simp) (.slice none 0 0)).set (j:=5) (by simp) (.slice none 0 0)).set (j:=6) (by simp) (.int .i64 9))
       have HYB:=qH (((((((hB.setCell (p:=⟨w.heap.size + 1 + 1,0,none⟩) (by dsimp only;omega) (.int .i64 0)).setCell (p:=⟨w.heap.size + 1 + 1,1,none⟩) (by dsimp only;omega) (.int .i64 0)).setCell (p:=⟨w.heap.size + 1 + 1,2,none⟩) (by dsimp only;omega) (.int .i64 0)).setCell (p:=⟨w.heap.size + 1 + 1,3,none⟩) (by dsimp only;omega) (.int .i64 0)).setCell (p:=⟨w.heap.size + 1 + 1,4,none⟩) (by dsimp only;omega) (.slice none 0 0)).setCell (p:=⟨w.heap.size + 1 + 1,5,none⟩) (by dsimp only;omega) (.slice none 0 0)).setCell (p:=⟨w.heap.size + 1 + 1,6,none⟩) (by dsimp only;omega) (.int .i64 9))
       obtain ⟨Y,hYd⟩ : ∃ Y,Y = ((((((w2.setCell ⟨w.heap.size + 1 + 1,0,none⟩ (.int .i64 0)).setCell ⟨w.heap.size + 1 + 1,1,none⟩ (.int .i64 0)).setCell ⟨w.heap.size + 1 + 1,2,none⟩ (.int .i64 0)).setCell ⟨w.heap.size + 1 + 1,3,none⟩ (.int .i64 0)).setCell ⟨w.heap.size + 1 + 1,4,none⟩ (.slice none 0 0)).setCell ⟨w.heap.size + 1 + 1,5,none⟩ (.slice none 0 0)).setCell ⟨w.heap.size + 1 + 1,6,none⟩ (.int .i64 9):=⟨_,rfl⟩
       rw [<- hYd] at hY HYB
       have g0:=hY.cell 0 _ rfl
       have g1:=hY.cell 1 _ rfl
       have g2:=hY.cell 2 _ rfl
       have g3:=hY.cell 3 _ rfl
       have g4:=hY.cell 4 _ rfl
       have g5:=hY.cell 5 _ rfl
       have g6:=hY.cell 6 _ rfl
       have HG:=qH (And.intro g0 (And.intro g1 (And.intro g2 (And.intro g3 (And.intro g4 (And.intro g5 g6))))))
       clear hb hX hB hY g0 g1 g2 g3 g4 g5 g6
       go_wp2_with fail
       rw [<- hYd]
       obtain ⟨g0,g1,g2,g3,g4,g5,g6⟩:=HG.out
       clear hYd e0 f0 e1 f1 e2 f2 e3 f3 e4 f4 e5 f5 e6 f6
       rw [HF.out]
       exact bodyPost_ret (v:=.agg #[.int .i64 0,.int .i64 0,.int .i64 0,.int .i64 0,.slice none 0 0,.slice none 0 0,.int .i64 9]) (by simp [results,Tryz.results85,go_sem,g0,g1,g2,g3,g4,g5,g6]) rfl ⟨none,0,0,none,0,0,rfl,⟨World.ownsRow_nil _ _ _ _,World.ownsRow_nil _ _ _ _⟩,HYB.out⟩
     · skip
       have HRR : Hid (itemsR ⟨c0,c1,c2,c3,ts,is⟩ ⟨4,q1,q2,q3,q4,q5,q6,q7,q8,q9⟩ = (bk0,6)):=qH (by unfold itemsR;rw [if_neg (fun h => by have:=h.1;dsimp only at this;omega),if_neg (fun h => by have:=h.1;dsimp only at this;omega),if_pos ⟨rfl,hh⟩])
       have HF : Hid (itemsR ⟨c0,c1,c2,c3,ts,is⟩ ⟨4,q1,q2,q3,q4,q5,q6,q7,q8,q9⟩ = (bk0,6)):=qH (HRR.out)
       go_wp2_with fail
       refine (l07Ill_any 6 _).mono ?_
       rintro e w2 ⟨rfl,hb⟩
       have hX:=BoxC.below (⟨HAr.out.lt,HAr.out.cell,HAr.out.free⟩ : BoxC (W.drewN _) (w.heap.size + 1 + 1) _) hb
       have hB:=Below.trans (show Below w.heap.size w (W.drewN _) from ⟨HB0.out.os,HB0.out.tape,HB0.out.output,HB0.out.size,HB0.out.block⟩) (hb.mono HB0.out.size)
       have e0:=hX.cell 0 _ rfl
       have f0:=hX.free 0
       have e1:=hX.cell 1 _ rfl
       have f1:=hX.free 1
       have e2:=hX.cell 2 _ rfl
       have f2:=hX.free 2
       have e3:=hX.cell 3 _ rfl
       have f3:=hX.free 3
       have e4:=hX.cell 4 _ rfl
       have f4:=hX.free 4
       have e5:=hX.cell 5 _ rfl
       have f5:=hX.free 5
       have e6:=hX.cell 6 _ rfl
       have f6:=hX.free 6
       have hY:=(((((((hX.set (j:=0) (by simp) (.int .i64 0)).set (j:=1) (by simp) (.int .i64 0)).set (j:=2) (by simp) (.int .i64 0)).set (j:=3) (by simp) (.int .i64 0)).set (j:=4) (by simp) (.slice none 0 0)).set (j:=5) (by simp) (.slice none 0 0)).set (j:=6) (by simp) (.int .i64 6))
       have HYB:=qH (((((((hB.setCell (p:=⟨w.heap.size + 1 + 1,0,none⟩) (by dsimp only;omega) (.int .i64 0)).setCell (p:=⟨w.heap.size + 1 + 1,1,none⟩) (by dsimp only;omega) (.int .i64 0)).setCell (p:=⟨w.heap.size + 1 + 1,2,none⟩) (by dsimp only;omega) (.int .i64 0)).setCell (p:=⟨w.heap.size + 1 + 1,3,none⟩) (by dsimp only;omega) (.int .i64 0)).setCell (p:=⟨w.heap.size + 1 + 1,4,none⟩) (by dsimp only;omega) (.slice none 0 0)).setCell (p:=⟨w.heap.size + 1 + 1,5,none⟩) (by dsimp only;omega) (.slice none 0 0)).setCell (p:=⟨w.heap.size + 1 + 1,6,none⟩) (by dsimp only;omega) (.int .i64 6))
       obtain ⟨Y,hYd⟩ : ∃ Y,Y = ((((((w2.setCell ⟨w.heap.size + 1 + 1,0,none⟩ (.int .i64 0)).setCell ⟨w.heap.size + 1 + 1,1,none⟩ (.int .i64 0)).setCell ⟨w.heap.size + 1 + 1,2,none⟩ (.int .i64 0)).setCell ⟨w.heap.size + 1 + 1,3,none⟩ (.int .i64 0)).setCell ⟨w.heap.size + 1 + 1,4,none⟩ (.slice none 0 0)).setCell ⟨w.heap.size + 1 + 1,5,none⟩ (.slice none 0 0)).setCell ⟨w.heap.size + 1 + 1,6,none⟩ (.int .i64 6):=⟨_,rfl⟩
       rw [<- hYd] at hY HYB
       have g0:=hY.cell 0 _ rfl
       have g1:=hY.cell 1 _ rfl
       have g2:=hY.cell 2 _ rfl
       have g3:=hY.cell 3 _ rfl
       have g4:=hY.cell 4 _ rfl
       have g5:=hY.cell 5 _ rfl
       have g6:=hY.cell 6 _ rfl
       have HG:=qH (And.intro g0 (And.intro g1 (And.intro g2 (And.intro g3 (And.intro g4 (And.intro g5 g6))))))
       clear hb hX hB hY g0 g1 g2 g3 g4 g5 g6
       go_wp2_with fail
       rw [<- hYd]
       obtain ⟨g0,g1,g2,g3,g4,g5,g6⟩:=HG.out
       clear hYd e0 f0 e1 f1 e2 f2 e3 f3 e4 f4 e5 f5 e6 f6
       rw [HF.out]
       exact bodyPost_ret (v:=.agg #[.int .i64 0,.int .i64 0,.int .i64 0,.int .i64 0,.slice none 0 0,.slice none 0 0,.int .i64 6]) (by simp [results,Tryz.results85,go_sem,g0,g1,g2,g3,g4,g5,g6]) rfl ⟨none,0,0,none,0,0,rfl,⟨World.ownsRow_nil _ _ _ _,World.ownsRow_nil _ _ _ _⟩,HYB.out⟩
   · have HHAS : Hid (hasI is q7 = true):=qH (by unfold hasI;rw [<- HK.out,hnm,hl2,decide_eq_true hlt];rfl)
     have hne:=(toList_eqb (is.getD k imD).nm q7).trans hnm
     generalize (is.getD k imD).nm = pm at *
     go_wp2_with fail
     go_quiet (fail)
     rcases hbad with ⟨rfl,htm⟩ | ⟨rfl,htm,hh,h8⟩ | ⟨rfl,hh⟩
     · skip
       have HRR : Hid (itemsR ⟨c0,c1,c2,c3,ts,is⟩ ⟨3,q1,q2,q3,q4,q5,q6,q7,q8,q9⟩ = (bk0,6)):=qH (by unfold itemsR;rw [if_pos ⟨rfl,by dsimp only;rw [hl1];exact htm⟩])
       have HF : Hid (itemsR ⟨c0,c1,c2,c3,ts,is⟩ ⟨3,q1,q2,q3,q4,q5,q6,q7,q8,q9⟩ = (bk0,6)):=qH (HRR.out)
       go_wp2_with fail
       refine (l07Ill_any 6 _).mono ?_
       rintro e w2 ⟨rfl,hb⟩
       have hX:=BoxC.below (⟨HAr.out.lt,HAr.out.cell,HAr.out.free⟩ : BoxC (W.drewN _) (w.heap.size + 1 + 1) _) hb
       have hB:=Below.trans (show Below w.heap.size w (W.drewN _) from ⟨HB0.out.os,HB0.out.tape,HB0.out.output,HB0.out.size,HB0.out.block⟩) (hb.mono HB0.out.size)
       have e0:=hX.cell 0 _ rfl
       have f0:=hX.free 0
       have e1:=hX.cell 1 _ rfl
       have f1:=hX.free 1
       have e2:=hX.cell 2 _ rfl
       have f2:=hX.free 2
       have e3:=hX.cell 3 _ rfl
       have f3:=hX.free 3
       have e4:=hX.cell 4 _ rfl
       have f4:=hX.free 4
       have e5:=hX.cell 5 _ rfl
       have f5:=hX.free 5
       have e6:=hX.cell 6 _ rfl
       have f6:=hX.free 6
       have hY:=(((((((hX.set (j:=0) (by simp) (.int .i64 0)).set (j:=1) (by simp) (.int .i64 0)).set (j:=2) (by simp) (.int .i64 0)).set (j:=3) (by simp) (.int .i64 0)).set (j:=4) (by simp) (.slice none 0 0)).set (j:=5) (by simp) (.slice none 0 0)).set (j:=6) (by simp) (.int .i64 6))
       have HYB:=qH (((((((hB.setCell (p:=⟨w.heap.size + 1 + 1,0,none⟩) (by dsimp only;omega) (.int .i64 0)).setCell (p:=⟨w.heap.size + 1 + 1,1,none⟩) (by dsimp only;omega) (.int .i64 0)).setCell (p:=⟨w.heap.size + 1 + 1,2,none⟩) (by dsimp only;omega) (.int .i64 0)).setCell (p:=⟨w.heap.size + 1 + 1,3,none⟩) (by dsimp only;omega) (.int .i64 0)).setCell (p:=⟨w.heap.size + 1 + 1,4,none⟩) (by dsimp only;omega) (.slice none 0 0)).setCell (p:=⟨w.heap.size + 1 + 1,5,none⟩) (by dsimp only;omega) (.slice none 0 0)).setCell (p:=⟨w.heap.size + 1 + 1,6,none⟩) (by dsimp only;omega) (.int .i64 6))
       obtain ⟨Y,hYd⟩ : ∃ Y,Y = ((((((w2.setCell ⟨w.heap.size + 1 + 1,0,none⟩ (.int .i64 0)).setCell ⟨w.heap.size + 1 + 1,1,none⟩ (.int .i64 0)).setCell ⟨w.heap.size + 1 + 1,2,none⟩ (.int .i64 0)).setCell ⟨w.heap.size + 1 + 1,3,none⟩ (.int .i64 0)).setCell ⟨w.heap.size + 1 + 1,4,none⟩ (.slice none 0 0)).setCell ⟨w.heap.size + 1 + 1,5,none⟩ (.slice none 0 0)).setCell ⟨w.heap.size + 1 + 1,6,none⟩ (.int .i64 6):=⟨_,rfl⟩
       rw [<- hYd] at hY HYB
       have g0:=hY.cell 0 _ rfl
       have g1:=hY.cell 1 _ rfl
       have g2:=hY.cell 2 _ rfl
       have g3:=hY.cell 3 _ rfl
       have g4:=hY.cell 4 _ rfl
       have g5:=hY.cell 5 _ rfl
       have g6:=hY.cell 6 _ rfl
       have HG:=qH (And.intro g0 (And.intro g1 (And.intro g2 (And.intro g3 (And.intro g4 (And.intro g5 g6))))))
       clear hb hX hB hY g0 g1 g2 g3 g4 g5 g6
       go_wp2_with fail
       rw [<- hYd]
       obtain ⟨g0,g1,g2,g3,g4,g5,g6⟩:=HG.out
       clear hYd e0 f0 e1 f1 e2 f2 e3 f3 e4 f4 e5 f5 e6 f6
       rw [HF.out]
       exact bodyPost_ret (v:=.agg #[.int .i64 0,.int .i64 0,.int .i64 0,.int .i64 0,.slice none 0 0,.slice none 0 0,.int .i64 6]) (by simp [results,Tryz.results85,go_sem,g0,g1,g2,g3,g4,g5,g6]) rfl ⟨none,0,0,none,0,0,rfl,⟨World.ownsRow_nil _ _ _ _,World.ownsRow_nil _ _ _ _⟩,HYB.out⟩
     · rw [HHAS.out] at hh;cases hh
     · rw [HHAS.out] at hh;cases hh
 · have HHAS : Hid (hasI is q7 = false):=qH (by unfold hasI;rw [<- HK.out,hl2,decide_eq_false hlt,Bool.false_and])
   have hlk : decide (k < n2) = false:=decide_eq_false hlt
   have hlk2 : decide ((k : Int) < (n2 : Int)) = false:=decide_eq_false (by omega)
   go_wp2_with fail
   go_quiet (fail)
   rcases hbad with ⟨rfl,htm⟩ | ⟨rfl,htm,hh,h8⟩ | ⟨rfl,hh⟩
   · skip
     have HRR : Hid (itemsR ⟨c0,c1,c2,c3,ts,is⟩ ⟨3,q1,q2,q3,q4,q5,q6,q7,q8,q9⟩ = (bk0,6)):=qH (by unfold itemsR;rw [if_pos ⟨rfl,by dsimp only;rw [hl1];exact htm⟩])
     have HF : Hid (itemsR ⟨c0,c1,c2,c3,ts,is⟩ ⟨3,q1,q2,q3,q4,q5,q6,q7,q8,q9⟩ = (bk0,6)):=qH (HRR.out)
     go_wp2_with fail
     refine (l07Ill_any 6 _).mono ?_
     rintro e w2 ⟨rfl,hb⟩
     have hX:=BoxC.below (⟨HAr.out.lt,HAr.out.cell,HAr.out.free⟩ : BoxC (W.drewN _) (w.heap.size + 1 + 1) _) hb
     have hB:=Below.trans (show Below w.heap.size w (W.drewN _) from ⟨HB0.out.os,HB0.out.tape,HB0.out.output,HB0.out.size,HB0.out.block⟩) (hb.mono HB0.out.size)
     have e0:=hX.cell 0 _ rfl
     have f0:=hX.free 0
     have e1:=hX.cell 1 _ rfl
     have f1:=hX.free 1
     have e2:=hX.cell 2 _ rfl
     have f2:=hX.free 2
     have e3:=hX.cell 3 _ rfl
     have f3:=hX.free 3
     have e4:=hX.cell 4 _ rfl
     have f4:=hX.free 4
     have e5:=hX.cell 5 _ rfl
     have f5:=hX.free 5
     have e6:=hX.cell 6 _ rfl
     have f6:=hX.free 6
     have hY:=(((((((hX.set (j:=0) (by simp) (.int .i64 0)).set (j:=1) (by simp) (.int .i64 0)).set (j:=2) (by simp) (.int .i64 0)).set (j:=3) (by simp) (.int .i64 0)).set (j:=4) (by simp) (.slice none 0 0)).set (j:=5) (by simp) (.slice none 0 0)).set (j:=6) (by simp) (.int .i64 6))
     have HYB:=qH (((((((hB.setCell (p:=⟨w.heap.size + 1 + 1,0,none⟩) (by dsimp only;omega) (.int .i64 0)).setCell (p:=⟨w.heap.size + 1 + 1,1,none⟩) (by dsimp only;omega) (.int .i64 0)).setCell (p:=⟨w.heap.size + 1 + 1,2,none⟩) (by dsimp only;omega) (.int .i64 0)).setCell (p:=⟨w.heap.size + 1 + 1,3,none⟩) (by dsimp only;omega) (.int .i64 0)).setCell (p:=⟨w.heap.size + 1 + 1,4,none⟩) (by dsimp only;omega) (.slice none 0 0)).setCell (p:=⟨w.heap.size + 1 + 1,5,none⟩) (by dsimp only;omega) (.slice none 0 0)).setCell (p:=⟨w.heap.size + 1 + 1,6,none⟩) (by dsimp only;omega) (.int .i64 6))
     obtain ⟨Y,hYd⟩ : ∃ Y,Y = ((((((w2.setCell ⟨w.heap.size + 1 + 1,0,none⟩ (.int .i64 0)).setCell ⟨w.heap.size + 1 + 1,1,none⟩ (.int .i64 0)).setCell ⟨w.heap.size + 1 + 1,2,none⟩ (.int .i64 0)).setCell ⟨w.heap.size + 1 + 1,3,none⟩ (.int .i64 0)).setCell ⟨w.heap.size + 1 + 1,4,none⟩ (.slice none 0 0)).setCell ⟨w.heap.size + 1 + 1,5,none⟩ (.slice none 0 0)).setCell ⟨w.heap.size + 1 + 1,6,none⟩ (.int .i64 6):=⟨_,rfl⟩
     rw [<- hYd] at hY HYB
     have g0:=hY.cell 0 _ rfl
     have g1:=hY.cell 1 _ rfl
     have g2:=hY.cell 2 _ rfl
     have g3:=hY.cell 3 _ rfl
     have g4:=hY.cell 4 _ rfl
     have g5:=hY.cell 5 _ rfl
     have g6:=hY.cell 6 _ rfl
     have HG:=qH (And.intro g0 (And.intro g1 (And.intro g2 (And.intro g3 (And.intro g4 (And.intro g5 g6))))))
     clear hb hX hB hY g0 g1 g2 g3 g4 g5 g6
     go_wp2_with fail
     rw [<- hYd]
     obtain ⟨g0,g1,g2,g3,g4,g5,g6⟩:=HG.out
     clear hYd e0 f0 e1 f1 e2 f2 e3 f3 e4 f4 e5 f5 e6 f6
     rw [HF.out]
     exact bodyPost_ret (v:=.agg #[.int .i64 0,.int .i64 0,.int .i64 0,.int .i64 0,.slice none 0 0,.slice none 0 0,.int .i64 6]) (by simp [results,Tryz.results85,go_sem,g0,g1,g2,g3,g4,g5,g6]) rfl ⟨none,0,0,none,0,0,rfl,⟨World.ownsRow_nil _ _ _ _,World.ownsRow_nil _ _ _ _⟩,HYB.out⟩
   · skip
     have HRR : Hid (itemsR ⟨c0,c1,c2,c3,ts,is⟩ ⟨3,q1,q2,q3,q4,q5,q6,q7,q8,q9⟩ = (bk0,9)):=qH (by unfold itemsR;rw [if_neg (fun h => by have:=h.2;dsimp only at this;rw [hl1] at this;omega),if_pos ⟨rfl,hh,by dsimp only;omega⟩])
     have htm2 : decide ((n1 : Int) < q8) = false:=decide_eq_false (by omega)
     have hn8 : (8 : Int) <= (n2 : Int):=by omega
     have HF : Hid (itemsR ⟨c0,c1,c2,c3,ts,is⟩ ⟨3,q1,q2,q3,q4,q5,q6,q7,q8,q9⟩ = (bk0,9)):=qH (HRR.out)
     go_wp2_with fail
     refine (l07Ill_any 9 _).mono ?_
     rintro e w2 ⟨rfl,hb⟩
     have hX:=BoxC.below (⟨HAr.out.lt,HAr.out.cell,HAr.out.free⟩ : BoxC (W.drewN _) (w.heap.size + 1 + 1) _) hb
     have hB:=Below.trans (show Below w.heap.size w (W.drewN _) from ⟨HB0.out.os,HB0.out.tape,HB0.out.output,HB0.out.size,HB0.out.block⟩) (hb.mono HB0.out.size)
     have e0:=hX.cell 0 _ rfl
     have f0:=hX.free 0
     have e1:=hX.cell 1 _ rfl
     have f1:=hX.free 1
     have e2:=hX.cell 2 _ rfl
     have f2:=hX.free 2
     have e3:=hX.cell 3 _ rfl
     have f3:=hX.free 3
     have e4:=hX.cell 4 _ rfl
     have f4:=hX.free 4
     have e5:=hX.cell 5 _ rfl
     have f5:=hX.free 5
     have e6:=hX.cell 6 _ rfl
     have f6:=hX.free 6
     have hY:=(((((((hX.set (j:=0) (by simp) (.int .i64 0)).set (j:=1) (by simp) (.int .i64 0)).set (j:=2) (by simp) (.int .i64 0)).set (j:=3) (by simp) (.int .i64 0)).set (j:=4) (by simp) (.slice none 0 0)).set (j:=5) (by simp) (.slice none 0 0)).set (j:=6) (by simp) (.int .i64 9))
     have HYB:=qH (((((((hB.setCell (p:=⟨w.heap.size + 1 + 1,0,none⟩) (by dsimp only;omega) (.int .i64 0)).setCell (p:=⟨w.heap.size + 1 + 1,1,none⟩) (by dsimp only;omega) (.int .i64 0)).setCell (p:=⟨w.heap.size + 1 + 1,2,none⟩) (by dsimp only;omega) (.int .i64 0)).setCell (p:=⟨w.heap.size + 1 + 1,3,none⟩) (by dsimp only;omega) (.int .i64 0)).setCell (p:=⟨w.heap.size + 1 + 1,4,none⟩) (by dsimp only;omega) (.slice none 0 0)).setCell (p:=⟨w.heap.size + 1 + 1,5,none⟩) (by dsimp only;omega) (.slice none 0 0)).setCell (p:=⟨w.heap.size + 1 + 1,6,none⟩) (by dsimp only;omega) (.int .i64 9))
     obtain ⟨Y,hYd⟩ : ∃ Y,Y = ((((((w2.setCell ⟨w.heap.size + 1 + 1,0,none⟩ (.int .i64 0)).setCell ⟨w.heap.size + 1 + 1,1,none⟩ (.int .i64 0)).setCell ⟨w.heap.size + 1 + 1,2,none⟩ (.int .i64 0)).setCell ⟨w.heap.size + 1 + 1,3,none⟩ (.int .i64 0)).setCell ⟨w.heap.size + 1 + 1,4,none⟩ (.slice none 0 0)).setCell ⟨w.heap.size + 1 + 1,5,none⟩ (.slice none 0 0)).setCell ⟨w.heap.size + 1 + 1,6,none⟩ (.int .i64 9):=⟨_,rfl⟩
     rw [<- hYd] at hY HYB
     have g0:=hY.cell 0 _ rfl
     have g1:=hY.cell 1 _ rfl
     have g2:=hY.cell 2 _ rfl
     have g3:=hY.cell 3 _ rfl
     have g4:=hY.cell 4 _ rfl
     have g5:=hY.cell 5 _ rfl
     have g6:=hY.cell 6 _ rfl
     have HG:=qH (And.intro g0 (And.intro g1 (And.intro g2 (And.intro g3 (And.intro g4 (And.intro g5 g6))))))
     clear hb hX hB hY g0 g1 g2 g3 g4 g5 g6
     go_wp2_with fail
     rw [<- hYd]
     obtain ⟨g0,g1,g2,g3,g4,g5,g6⟩:=HG.out
     clear hYd e0 f0 e1 f1 e2 f2 e3 f3 e4 f4 e5 f5 e6 f6
     rw [HF.out]
     exact bodyPost_ret (v:=.agg #[.int .i64 0,.int .i64 0,.int .i64 0,.int .i64 0,.slice none 0 0,.slice none 0 0,.int .i64 9]) (by simp [results,Tryz.results85,go_sem,g0,g1,g2,g3,g4,g5,g6]) rfl ⟨none,0,0,none,0,0,rfl,⟨World.ownsRow_nil _ _ _ _,World.ownsRow_nil _ _ _ _⟩,HYB.out⟩
   · skip
     have HRR : Hid (itemsR ⟨c0,c1,c2,c3,ts,is⟩ ⟨4,q1,q2,q3,q4,q5,q6,q7,q8,q9⟩ = (bk0,6)):=qH (by unfold itemsR;rw [if_neg (fun h => by have:=h.1;dsimp only at this;omega),if_neg (fun h => by have:=h.1;dsimp only at this;omega),if_pos ⟨rfl,hh⟩])
     have HF : Hid (itemsR ⟨c0,c1,c2,c3,ts,is⟩ ⟨4,q1,q2,q3,q4,q5,q6,q7,q8,q9⟩ = (bk0,6)):=qH (HRR.out)
     go_wp2_with fail
     refine (l07Ill_any 6 _).mono ?_
     rintro e w2 ⟨rfl,hb⟩
     have hX:=BoxC.below (⟨HAr.out.lt,HAr.out.cell,HAr.out.free⟩ : BoxC (W.drewN _) (w.heap.size + 1 + 1) _) hb
     have hB:=Below.trans (show Below w.heap.size w (W.drewN _) from ⟨HB0.out.os,HB0.out.tape,HB0.out.output,HB0.out.size,HB0.out.block⟩) (hb.mono HB0.out.size)
     have e0:=hX.cell 0 _ rfl
     have f0:=hX.free 0
     have e1:=hX.cell 1 _ rfl
     have f1:=hX.free 1
     have e2:=hX.cell 2 _ rfl
     have f2:=hX.free 2
     have e3:=hX.cell 3 _ rfl
     have f3:=hX.free 3
     have e4:=hX.cell 4 _ rfl
     have f4:=hX.free 4
     have e5:=hX.cell 5 _ rfl
     have f5:=hX.free 5
     have e6:=hX.cell 6 _ rfl
     have f6:=hX.free 6
     have hY:=(((((((hX.set (j:=0) (by simp) (.int .i64 0)).set (j:=1) (by simp) (.int .i64 0)).set (j:=2) (by simp) (.int .i64 0)).set (j:=3) (by simp) (.int .i64 0)).set (j:=4) (by simp) (.slice none 0 0)).set (j:=5) (by simp) (.slice none 0 0)).set (j:=6) (by simp) (.int .i64 6))
     have HYB:=qH (((((((hB.setCell (p:=⟨w.heap.size + 1 + 1,0,none⟩) (by dsimp only;omega) (.int .i64 0)).setCell (p:=⟨w.heap.size + 1 + 1,1,none⟩) (by dsimp only;omega) (.int .i64 0)).setCell (p:=⟨w.heap.size + 1 + 1,2,none⟩) (by dsimp only;omega) (.int .i64 0)).setCell (p:=⟨w.heap.size + 1 + 1,3,none⟩) (by dsimp only;omega) (.int .i64 0)).setCell (p:=⟨w.heap.size + 1 + 1,4,none⟩) (by dsimp only;omega) (.slice none 0 0)).setCell (p:=⟨w.heap.size + 1 + 1,5,none⟩) (by dsimp only;omega) (.slice none 0 0)).setCell (p:=⟨w.heap.size + 1 + 1,6,none⟩) (by dsimp only;omega) (.int .i64 6))
     obtain ⟨Y,hYd⟩ : ∃ Y,Y = ((((((w2.setCell ⟨w.heap.size + 1 + 1,0,none⟩ (.int .i64 0)).setCell ⟨w.heap.size + 1 + 1,1,none⟩ (.int .i64 0)).setCell ⟨w.heap.size + 1 + 1,2,none⟩ (.int .i64 0)).setCell ⟨w.heap.size + 1 + 1,3,none⟩ (.int .i64 0)).setCell ⟨w.heap.size + 1 + 1,4,none⟩ (.slice none 0 0)).setCell ⟨w.heap.size + 1 + 1,5,none⟩ (.slice none 0 0)).setCell ⟨w.heap.size + 1 + 1,6,none⟩ (.int .i64 6):=⟨_,rfl⟩
     rw [<- hYd] at hY HYB
     have g0:=hY.cell 0 _ rfl
     have g1:=hY.cell 1 _ rfl
     have g2:=hY.cell 2 _ rfl
     have g3:=hY.cell 3 _ rfl
     have g4:=hY.cell 4 _ rfl
     have g5:=hY.cell 5 _ rfl
     have g6:=hY.cell 6 _ rfl
     have HG:=qH (And.intro g0 (And.intro g1 (And.intro g2 (And.intro g3 (And.intro g4 (And.intro g5 g6))))))
     clear hb hX hB hY g0 g1 g2 g3 g4 g5 g6
     go_wp2_with fail
     rw [<- hYd]
     obtain ⟨g0,g1,g2,g3,g4,g5,g6⟩:=HG.out
     clear hYd e0 f0 e1 f1 e2 f2 e3 f3 e4 f4 e5 f5 e6 f6
     rw [HF.out]
     exact bodyPost_ret (v:=.agg #[.int .i64 0,.int .i64 0,.int .i64 0,.int .i64 0,.slice none 0 0,.slice none 0 0,.int .i64 6]) (by simp [results,Tryz.results85,go_sem,g0,g1,g2,g3,g4,g5,g6]) rfl ⟨none,0,0,none,0,0,rfl,⟨World.ownsRow_nil _ _ _ _,World.ownsRow_nil _ _ _ _⟩,HYB.out⟩
theorem sizeOfItem (w : World) : (Go.sizeOf 32).run Tryz.prog w = .ok 3 w:=by kernel_rfl
theorem cut_to_items (W : World) (a2 : Option Addr) (n cap k : Nat) (hk : k <= cap) : (Instr.slice 26 (.slice a2 n cap) none (some (.int .i64 (k : Int))) none).run Tryz.prog W = .ok (.slice a2 k cap) W:=by
 have ht:=Tryz.underlying26
 have ht' : Tryz.prog.underlying 26 = some (.slice (Tryz.prog.elem 26)):=by simp [Program.elem,ht]
 have he : Tryz.prog.elem 26 = 32:=by simp [Program.elem,ht]
 rw [run_slice_h W 26 _ _ _ ht' .i64 _ (by omega) (by omega),he,sizeOfItem]
 cases a2 with
 | none => simp [Result.andThen,sliced]
 | some ad => obtain ⟨g,o,r⟩:=ad;simp [Result.andThen,sliced,Addr.add]
theorem items_drop {w : World} {a2 : Option Addr} {n cap k : Nat} {is : List Im} (h : ImR w a2 n cap is) (hk : k <= n) : ImR w (if cap = k then a2 else a2.map (·.add (k * 3))) (n - k) (cap - k) (is.drop k):=by
 have hle:=h.le
 rcases Nat.lt_or_ge k n with hlt | hge
 · obtain ⟨g,o,rfl,_⟩:=h.cells (by omega)
   rw [if_neg (by omega)]
   have hadd : (⟨g,o,none⟩ : Addr).add (k * 3) = ⟨g,o + k * 3,none⟩:=by
    unfold Addr.add
    split
    · rename_i h0
      have hk0 : k = 0:=by omega
      subst hk0
      rfl
    · rfl
   rw [Option.map_some,hadd]
   exact SR.drop h hlt
 · have e : k = n:=by omega
   subst e
   refine ⟨by rw [List.length_drop,h.len],by omega,fun e => ?_,fun h0 => absurd h0 (by omega)⟩
   by_cases hc : cap = k
   · omega
   · rw [if_neg hc] at e
     have:=h.nil (by simpa using e)
     omega
theorem items_drop2 {w : World} {g o n cap k : Nat} {is : List Im} (h : ImR w (some ⟨g,o,none⟩) n cap is) (hk : k <= n) : ImR w (if cap = k then some ⟨g,o,none⟩ else some ⟨g,o + k * 3,none⟩) (n - k) (cap - k) (is.drop k):=by
 have hle:=h.le
 rcases Nat.lt_or_ge k n with hlt | hge
 · rw [if_neg (by omega)]
   exact SR.drop h hlt
 · have e : k = n:=by omega
   subst e
   refine ⟨by rw [List.length_drop,h.len],by omega,fun e => ?_,fun h0 => absurd h0 (by omega)⟩
   split at e <;> cases e
theorem l07Items_ok (c0 c1 c2 c3 : Int) (ts : List Tm) (is : List Im) (q0 q1 q2 q3 q4 q5 : Int) (q6 q7 : ByteArray) (q8 : Int) (q9 : ByteArray) (a1 a2 : Option Addr) (n1 n2 a3 a4 : Nat) (w : World) (h : BkR w a1 n1 a3 a2 n2 a4 ts is) (hn1 : n1 <= 5) (hn2 : n2 <= 8) (hok : (q0 = 3 /\ ¬ (n1 : Int) < q8 /\ (hasI is q7 = true ∨ n2 < 8)) ∨ (q0 = 4 /\ hasI is q7 = true)) :
 Calls Tryz.prog 85 #[.agg #[.int .i64 c0,.int .i64 c1,.int .i64 c2,.int .i64 c3,.slice a1 n1 a3,.slice a2 n2 a4],.agg #[.int .i64 q0,.int .i64 q1,.int .i64 q2,.int .i64 q3,.int .i64 q4,.int .i64 q5,.string q6,.string q7,.int .i64 q8,.string q9]] w (NewBookOut (itemsR ⟨c0,c1,c2,c3,ts,is⟩ ⟨q0,q1,q2,q3,q4,q5,q6,q7,q8,q9⟩) w):=by
 have hl1 : ts.length = n1:=h.t.len
 have hl2 : is.length = n2:=h.i.len
 obtain ⟨W,hW⟩ : ∃ W,W = ((w.alloc (.cells #[.int .i64 c0,.int .i64 c1,.int .i64 c2,.int .i64 c3,.slice a1 n1 a3,.slice a2 n2 a4] 28)).alloc (.cells #[.int .i64 q0,.int .i64 q1,.int .i64 q2,.int .i64 q3,.int .i64 q4,.int .i64 q5,.string q6,.string q7,.int .i64 q8,.string q9] 34)).alloc (.cells #[.int .i64 0,.int .i64 0,.int .i64 0,.int .i64 0,.slice none 0 0,.slice none 0 0,.int .i64 0] 46):=⟨_,rfl⟩
 have HB0 : Hid (Below w.heap.size w W):=qH (by rw [hW];repeat' (first | exact Below.refl _ _ | refine Below.alloc ?_ (by first | exact Nat.le_refl _ | (simp;done) | (simp;omega)) _))
 have HAb : Hid (BoxC W w.heap.size [.int .i64 c0,.int .i64 c1,.int .i64 c2,.int .i64 c3,.slice a1 n1 a3,.slice a2 n2 a4]):=qH (by rw [hW];exact ((BoxC.made _ _ _).alloc _).alloc _)
 have HAd : Hid (BoxC W (w.heap.size + 1) [.int .i64 q0,.int .i64 q1,.int .i64 q2,.int .i64 q3,.int .i64 q4,.int .i64 q5,.string q6,.string q7,.int .i64 q8,.string q9]):=qH (by rw [hW];have:=(BoxC.made (w.alloc (.cells #[.int .i64 c0,.int .i64 c1,.int .i64 c2,.int .i64 c3,.slice a1 n1 a3,.slice a2 n2 a4] 28)) #[.int .i64 q0,.int .i64 q1,.int .i64 q2,.int .i64 q3,.int .i64 q4,.int .i64 q5,.string q6,.string q7,.int .i64 q8,.string q9] 34).alloc (.cells #[.int .i64 0,.int .i64 0,.int .i64 0,.int .i64 0,.slice none 0 0,.slice none 0 0,.int .i64 0] 46);rwa [World.size_alloc] at this)
 have HAr : Hid (BoxC W (w.heap.size + 1 + 1) [.int .i64 0,.int .i64 0,.int .i64 0,.int .i64 0,.slice none 0 0,.slice none 0 0,.int .i64 0]):=qH (by rw [hW];have:=BoxC.made ((w.alloc (.cells #[.int .i64 c0,.int .i64 c1,.int .i64 c2,.int .i64 c3,.slice a1 n1 a3,.slice a2 n2 a4] 28)).alloc (.cells #[.int .i64 q0,.int .i64 q1,.int .i64 q2,.int .i64 q3,.int .i64 q4,.int .i64 q5,.string q6,.string q7,.int .i64 q8,.string q9] 34)) #[.int .i64 0,.int .i64 0,.int .i64 0,.int .i64 0,.slice none 0 0,.slice none 0 0,.int .i64 0] 46;rwa [World.size_alloc,World.size_alloc] at this)
 have HR:=qH h
 have HOK:=qH hok
 clear hok
 have hat:=atI_le is q7
 obtain ⟨k,hk⟩ : ∃ k,k = atI is q7:=⟨_,rfl⟩
 have HK:=qH hk
 rw [<- hk] at hat
 clear h hk
 go_enter Tryz.func85,Tryz.ntmps85
 go_wp2_with fail
 rw [<- hW]
 clear hW
 refine (l07At_any a2 n2 a4 is q7 _ (HR.out.below HB0.out).i (by omega)).mono ?_
 rintro e w1 ⟨rfl,rfl⟩
 rw [<- HK.out]
 have x5:=HAb.out.cell 5 _ rfl
 have d7:=HAd.out.cell 7 _ rfl
 have d0:=HAd.out.cell 0 _ rfl
 have d8:=HAd.out.cell 8 _ rfl
 have x4:=HAb.out.cell 4 _ rfl
 by_cases hlt : k < n2
 · obtain ⟨g,o,ha2,hg,t0,_,_⟩:=(HR.out.below HB0.out).i.at hlt
   subst ha2
   have hin : 0 <= (k : Int) /\ (k : Int) < (n2 : Int):=by omega
   have hlk : (k : Int) < (n2 : Int):=by omega
   cases hnm : decide ((is.getD k imD).nm = q7)
   · have HHAS : Hid (hasI is q7 = false):=qH (by unfold hasI;rw [<- HK.out,hnm,Bool.and_false])
     have hne:=(toList_eqb (is.getD k imD).nm q7).trans hnm
     generalize (is.getD k imD).nm = pm at *
     go_wp2_with fail
     go_quiet (fail)
     obtain ⟨rfl,htm,hh⟩ : q0 = 3 /\ ¬ (n1 : Int) < q8 /\ n2 < 8:=by
      rcases HOK.out with ⟨h1,h2,h3⟩ | ⟨_,h3⟩
      · exact ⟨h1,by omega,h3.resolve_left (by rw [HHAS.out];decide)⟩
      · rw [HHAS.out] at h3;cases h3
     have htm2 : decide ((n1 : Int) < q8) = false:=decide_eq_false (by omega)
     have hn8 : ¬ (8 : Int) <= (n2 : Int):=by omega
     have y0 : ∀ q,(W.drewN q).cell? ⟨w.heap.size,0,none⟩ = some (.int .i64 c0):=fun q => HAb.out.cell 0 _ rfl
     have y1 : ∀ q,(W.drewN q).cell? ⟨w.heap.size,1,none⟩ = some (.int .i64 c1):=fun q => HAb.out.cell 1 _ rfl
     have y2 : ∀ q,(W.drewN q).cell? ⟨w.heap.size,2,none⟩ = some (.int .i64 c2):=fun q => HAb.out.cell 2 _ rfl
     have y3 : ∀ q,(W.drewN q).cell? ⟨w.heap.size,3,none⟩ = some (.int .i64 c3):=fun q => HAb.out.cell 3 _ rfl
     have y4 : ∀ q,(W.drewN q).cell? ⟨w.heap.size,4,none⟩ = some (.slice a1 n1 a3):=fun q => HAb.out.cell 4 _ rfl
     have y5:=fun q => (show (W.drewN q).cell? ⟨w.heap.size,5,none⟩ = _ from HAb.out.cell 5 _ rfl)
     have HW : Hid (∀ q,Below w.heap.size w (W.drewN q)):=qH (fun q => ⟨HB0.out.os,HB0.out.tape,HB0.out.output,HB0.out.size,HB0.out.block⟩)
     have HWW : Hid (∀ q,Below W.heap.size W (W.drewN q)):=qH (fun q => ⟨rfl,rfl,rfl,Nat.le_refl _,fun _ _ => rfl⟩)
     go_wp2_with fail
     refine (l07Copy_any c0 c1 c2 c3 _ _ n1 n2 a3 a4 ts is _ (HR.out.below (HW.out _)) (by omega) (by omega)).mono ?_
     rintro e w2 ⟨b1,m1,b3,b2,m2,b4,rfl,ho,hb⟩
     have hm1 : m1 = n1:=ho.len.1.symm.trans hl1
     have hm2 : m2 = n2:=ho.len.2.symm.trans hl2
     rw [hm1,hm2] at ho
     have HO2 : Hid (BkO w2 W.heap.size b1 n1 b3 b2 n2 b4 ts is):=qH ho
     have HWD:=qH ((HWW.out _).trans hb)
     rw [hm1,hm2]
     clear ho hb y0 y1 y2 y3 y4 y5 hm1 hm2 m1 m2
     have HB2:=qH (HB0.out.trans (HWD.out.mono HB0.out.size))
     obtain ⟨i2,hi2,hz2,hs2,hy2⟩:=info_parts infoItem
     obtain ⟨V,hV⟩ : ∃ V,V = (w2.alloc (.cells #[.int .i64 c0,.int .i64 c1,.int .i64 c2,.int .i64 c3,.slice b1 n1 b3,.slice b2 n2 b4] 28)).alloc (.cells #[] 32):=⟨_,rfl⟩
     have HWV : Hid (Below W.heap.size W V):=qH (by rw [hV];exact (HWD.out.alloc HWD.out.size _).alloc (Nat.le_trans HWD.out.size (by simp)) _)
     have HBV : Hid (Below w.heap.size w V):=qH (HB0.out.trans (HWV.out.mono HB0.out.size))
     have HVo : Hid (BoxC V w2.heap.size [.int .i64 c0,.int .i64 c1,.int .i64 c2,.int .i64 c3,.slice b1 n1 b3,.slice b2 n2 b4]):=qH (by rw [hV];exact (BoxC.made _ _ _).alloc _)
     have HVT : Hid (V.ownsRow W.heap.size 30 tmE.k (.slice b1 n1 b3) n1 (tmE.flat ts)):=qH (by rw [hV];exact World.ownsRow.alloc (World.ownsRow.alloc HO2.out.t _) _)
     have HVL : Hid (V.ownsRow (w2.heap.size + 1) 32 imE.k (.slice (some ⟨w2.heap.size + 1,0,none⟩) 0 0) 0 (imE.flat [])):=qH (by rw [hV];have:=own_made0 imE (w2.alloc (.cells #[.int .i64 c0,.int .i64 c1,.int .i64 c2,.int .i64 c3,.slice b1 n1 b3,.slice b2 n2 b4] 28)) 32 (base:=w2.heap.size + 1) (by simp);rwa [World.size_alloc] at this)
     have HVS : Hid (w2.heap.size + 1 < V.heap.size):=qH (by rw [hV];simp)
     have HWS : Hid (w.heap.size + 1 + 1 < w2.heap.size):=qH (Nat.lt_of_lt_of_le HAr.out.lt HWD.out.size)
     have HTL : Hid (∀ q,(Value.slice b1 n1 b3).ownBlock = some q -> q < w2.heap.size):=qH (fun q hq => (HO2.out.t.lt q hq).2)
     have HBoV:=HVo
     have HBbV:=qH (HAb.out.below HWV.out)
     have HBdV:=qH (HAd.out.below HWV.out)
     have HBrV:=qH (HAr.out.below HWV.out)
     have HTV:=HVT
     have HSV:=HVS
     have HLWV : Hid (∀ q,(Value.slice (some ⟨w2.heap.size + 1,0,none⟩) 0 0).ownBlock = some q -> w2.heap.size + 1 <= q):=qH (fun q hq => (HVL.out.lt q hq).1)
     have x5V:=HBbV.out.cell 5 _ rfl
     have HRV:=qH (HR.out.below HBV.out)
     have hcut:=fun W => cut_to_items W (some ⟨g,o,none⟩) n2 a4 k (Nat.le_trans hat (by rw [hl2];exact HR.out.i.le))
     have hkpn : k <= n2:=by omega
     have hk64 : IntKind.i64.wrap ((k : Int) + 1) = ((k + 1 : Nat) : Int):=by rw [IntWalk.i64_in _ (by omega)];omega
     rw [hV] at x5V
     have HIL : Hid (is.take k ++ [(⟨q7,q8,q9⟩ : Im)] ++ is.drop k = itemsL is ⟨3,q1,q2,q3,q4,q5,q6,q7,q8,q9⟩):=qH (by unfold itemsL;dsimp only;rw [<- HK.out,HHAS.out];simp [imOf])
     obtain ⟨N,hN⟩ : ∃ N,N = k + 1 + (n2 - k):=⟨_,rfl⟩
     have HN:=qH hN.symm
     clear hN
     have hne1 : ¬ w2.heap.size = w.heap.size + 1 + 1:=by have:=HWS.out;omega
     have hne2 : ¬ w.heap.size + 1 + 1 = w2.heap.size:=by have:=HWS.out;omega
     go_wp2_with (first | (at_builtin;refine append_wl imE imD rfl _ _ 26 rfl 32 i2 _ 40 Tryz.underlying26 hi2 hz2 hs2 hy2 rfl (by decide) (by decide) (w2.heap.size + 1) _ 0 [] rfl (hV ▸ HVL.out) _ k a4 (is.take k) rfl (hV ▸ SR.take HRV.out.i (by omega)) (Nat.le_of_lt (hV ▸ HVS.out)) (by omega) (by omega) ?_;rw [<- hV];intro v3 u3 O3 G3;rw [Nat.zero_add,List.nil_append] at O3;have HO3:=qH O3;have HBo3:=qH (HBoV.out.grown G3 (fun e => by have:=HLWV.out _ e.symm;omega));have HBb3:=qH (HBbV.out.grown G3 (fun e => by have:=HLWV.out _ e.symm;have:=HWS.out;omega));have HBd3:=qH (HBdV.out.grown G3 (fun e => by have:=HLWV.out _ e.symm;have:=HWS.out;omega));have HBr3:=qH (HBrV.out.grown G3 (fun e => by have:=HLWV.out _ e.symm;have:=HWS.out;omega));have HT3:=qH (own_grown HTV.out G3 (fun q hq h2 => by have:=HLWV.out _ h2;have:=HTL.out _ hq;omega));have HB3:=qH (HBV.out.grown G3 HBV.out.size (fun q hq => by have:=HLWV.out _ hq;have:=HWS.out;have:=HWD.out.size;have:=HB0.out.size;omega));have HS3:=qH (Nat.lt_of_lt_of_le HSV.out G3.size);clear O3 G3 x5V;obtain ⟨a5,c5,rfl⟩:=own_shape HO3.out;have HLW3 : Hid (∀ q,(Value.slice a5 k c5).ownBlock = some q -> w2.heap.size + 1 <= q):=qH (fun q hq => (HO3.out.lt q hq).1);have dd0:=HBd3.out.cell 0 _ rfl;have dd7:=HBd3.out.cell 7 _ rfl;have dd8:=HBd3.out.cell 8 _ rfl;have dd9:=HBd3.out.cell 9 _ rfl;have z5:=HBb3.out.cell 5 _ rfl;have HXB : Hid (Below u3.heap.size u3 (u3.alloc (.cells #[.string q7,.int .i64 q8,.string q9] 32))):=qH ((Below.refl _ _).alloc (Nat.le_refl _) _);have HXO:=qH (own_below HO3.out HXB.out);have HXL : Hid (SR imE imD (u3.alloc (.cells #[.string q7,.int .i64 q8,.string q9] 32)) (some ⟨u3.heap.size,0,none⟩) 1 1 [⟨q7,q8,q9⟩]):=qH (SR.own (by decide) (World.ownsRow_lit u3 #[.string q7,.int .i64 q8,.string q9] 1 (Nat.le_refl _) (by decide) rfl));have HBoX:=qH (HBo3.out.below HXB.out);have HBbX:=qH (HBb3.out.below HXB.out);have HBdX:=qH (HBd3.out.below HXB.out);have HBrX:=qH (HBr3.out.below HXB.out);have HTX:=qH (own_below HT3.out HXB.out);have HBX:=qH (HB3.out.trans (HXB.out.mono HB3.out.size));have HSX:=qH (Nat.lt_of_lt_of_le HS3.out HXB.out.size);have HLWX:=HLW3) | (at_builtin;refine append_wl imE imD rfl _ _ 26 rfl 32 i2 _ 40 Tryz.underlying26 hi2 hz2 hs2 hy2 rfl (by decide) (by decide) (w2.heap.size + 1) _ k (is.take k) rfl HXO.out _ 1 1 [⟨q7,q8,q9⟩] rfl HXL.out (Nat.le_of_lt HSX.out) (by omega) (by omega) ?_;intro v4 u4 O4 G4;have HO4:=qH O4;have HBo4:=qH (HBoX.out.grown G4 (fun e => by have:=HLWX.out _ e.symm;omega));have HBb4:=qH (HBbX.out.grown G4 (fun e => by have:=HLWX.out _ e.symm;have:=HWS.out;omega));have HBd4:=qH (HBdX.out.grown G4 (fun e => by have:=HLWX.out _ e.symm;have:=HWS.out;omega));have HBr4:=qH (HBrX.out.grown G4 (fun e => by have:=HLWX.out _ e.symm;have:=HWS.out;omega));have HT4:=qH (own_grown HTX.out G4 (fun q hq h2 => by have:=HLWX.out _ h2;have:=HTL.out _ hq;omega));have HB4:=qH (HBX.out.grown G4 HBX.out.size (fun q hq => by have:=HLWX.out _ hq;have:=HWS.out;have:=HWD.out.size;have:=HB0.out.size;omega));have HS4:=qH (Nat.lt_of_lt_of_le HSX.out G4.size);clear O4 G4 z5 dd0 dd7 dd8 dd9;obtain ⟨a6,c6,rfl⟩:=own_shape HO4.out;have HLW4 : Hid (∀ q,(Value.slice a6 (k + 1) c6).ownBlock = some q -> w2.heap.size + 1 <= q):=qH (fun q hq => (HO4.out.lt q hq).1);have z5:=HBb4.out.cell 5 _ rfl;have dd0:=HBd4.out.cell 0 _ rfl) | (at_builtin;refine append_wl imE imD rfl _ _ 26 rfl 32 i2 _ 40 Tryz.underlying26 hi2 hz2 hs2 hy2 rfl (by decide) (by decide) (w2.heap.size + 1) _ (k + 1) (is.take k ++ [(⟨q7,q8,q9⟩ : Im)]) rfl HO4.out _ (n2 - k) (a4 - k) (is.drop k) rfl (by first | exact items_drop2 (HR.out.below HB4.out).i hkpn | exact items_drop (HR.out.below HB4.out).i hkpn) (Nat.le_of_lt HS4.out) (by omega) (by omega) ?_;intro v5 u5 O5 G5;rw [HIL.out,HN.out] at O5;have HO5:=qH O5;have HBo5:=qH (HBo4.out.grown G5 (fun e => by have:=HLW4.out _ e.symm;omega));have HBr5:=qH (HBr4.out.grown G5 (fun e => by have:=HLW4.out _ e.symm;have:=HWS.out;omega));have HT5:=qH (own_grown HT4.out G5 (fun q hq h2 => by have:=HLW4.out _ h2;have:=HTL.out _ hq;omega));have HB5:=qH (HB4.out.grown G5 HB4.out.size (fun q hq => by have:=HLW4.out _ hq;have:=HWS.out;have:=HWD.out.size;have:=HB0.out.size;omega));clear O5 G5 z5 dd0;obtain ⟨a7,c7,rfl⟩:=own_shape HO5.out;have HL5 : Hid (∀ q,(Value.slice a7 N c7).ownBlock = some q -> w2.heap.size + 1 <= q):=qH (fun q hq => (HO5.out.lt q hq).1);have o0:=HBo5.out.cell 0 _ rfl;have o1:=HBo5.out.cell 1 _ rfl;have o2:=HBo5.out.cell 2 _ rfl;have o3:=HBo5.out.cell 3 _ rfl;have o4:=HBo5.out.cell 4 _ rfl;have o5:=HBo5.out.cell 5 _ rfl;have p5:=HBo5.out.free 5;have z0:=HBr5.out.cell 0 _ rfl;have f0:=HBr5.out.free 0;have z1:=HBr5.out.cell 1 _ rfl;have f1:=HBr5.out.free 1;have z2:=HBr5.out.cell 2 _ rfl;have f2:=HBr5.out.free 2;have z3:=HBr5.out.cell 3 _ rfl;have f3:=HBr5.out.free 3;have z4:=HBr5.out.cell 4 _ rfl;have f4:=HBr5.out.free 4;have z5:=HBr5.out.cell 5 _ rfl;have f5:=HBr5.out.free 5;have z6:=HBr5.out.cell 6 _ rfl;have f6:=HBr5.out.free 6))
     all_goals
      have hY:=((((((((HBr5.out.other ⟨w2.heap.size,5,none⟩ (.slice a7 N c7) (by dsimp only;omega)).set (j:=0) (by simp) (.int .i64 c0)).set (j:=1) (by simp) (.int .i64 c1)).set (j:=2) (by simp) (.int .i64 c2)).set (j:=3) (by simp) (.int .i64 c3)).set (j:=4) (by simp) (.slice b1 n1 b3)).set (j:=5) (by simp) (.slice a7 N c7)).set (j:=6) (by simp) (.int .i64 0))
      have HYB:=qH ((((((((HB5.out.setCell (p:=⟨w2.heap.size,5,none⟩) (by dsimp only;have:=HWS.out;omega) (.slice a7 N c7)).setCell (p:=⟨w.heap.size + 1 + 1,0,none⟩) (by dsimp only;omega) (.int .i64 c0)).setCell (p:=⟨w.heap.size + 1 + 1,1,none⟩) (by dsimp only;omega) (.int .i64 c1)).setCell (p:=⟨w.heap.size + 1 + 1,2,none⟩) (by dsimp only;omega) (.int .i64 c2)).setCell (p:=⟨w.heap.size + 1 + 1,3,none⟩) (by dsimp only;omega) (.int .i64 c3)).setCell (p:=⟨w.heap.size + 1 + 1,4,none⟩) (by dsimp only;omega) (.slice b1 n1 b3)).setCell (p:=⟨w.heap.size + 1 + 1,5,none⟩) (by dsimp only;omega) (.slice a7 N c7)).setCell (p:=⟨w.heap.size + 1 + 1,6,none⟩) (by dsimp only;omega) (.int .i64 0))
      obtain ⟨Y,hYd⟩ : ∃ Y,Y = (((((((u5.setCell ⟨w2.heap.size,5,none⟩ (.slice a7 N c7)).setCell ⟨w.heap.size + 1 + 1,0,none⟩ (.int .i64 c0)).setCell ⟨w.heap.size + 1 + 1,1,none⟩ (.int .i64 c1)).setCell ⟨w.heap.size + 1 + 1,2,none⟩ (.int .i64 c2)).setCell ⟨w.heap.size + 1 + 1,3,none⟩ (.int .i64 c3)).setCell ⟨w.heap.size + 1 + 1,4,none⟩ (.slice b1 n1 b3)).setCell ⟨w.heap.size + 1 + 1,5,none⟩ (.slice a7 N c7)).setCell ⟨w.heap.size + 1 + 1,6,none⟩ (.int .i64 0):=⟨_,rfl⟩
      have HYT : Hid (Y.ownsRow w.heap.size 30 tmE.k (.slice b1 n1 b3) n1 (tmE.flat ts)):=qH (by rw [hYd];exact (own_other (own_other (own_other (own_other (own_other (own_other (own_other (own_other (own_mono HT5.out (show w.heap.size <= W.heap.size from HB0.out.size)) (b:=w2.heap.size) (fun q hq => by have:=HTL.out q hq;omega) ⟨w2.heap.size,5,none⟩ (.slice a7 N c7) rfl) (b:=w.heap.size + 1 + 1) (fun q hq => by have:=(HO2.out.t.lt q hq).1;have:=HAr.out.lt;omega) ⟨w.heap.size + 1 + 1,0,none⟩ (.int .i64 c0) rfl) (b:=w.heap.size + 1 + 1) (fun q hq => by have:=(HO2.out.t.lt q hq).1;have:=HAr.out.lt;omega) ⟨w.heap.size + 1 + 1,1,none⟩ (.int .i64 c1) rfl) (b:=w.heap.size + 1 + 1) (fun q hq => by have:=(HO2.out.t.lt q hq).1;have:=HAr.out.lt;omega) ⟨w.heap.size + 1 + 1,2,none⟩ (.int .i64 c2) rfl) (b:=w.heap.size + 1 + 1) (fun q hq => by have:=(HO2.out.t.lt q hq).1;have:=HAr.out.lt;omega) ⟨w.heap.size + 1 + 1,3,none⟩ (.int .i64 c3) rfl) (b:=w.heap.size + 1 + 1) (fun q hq => by have:=(HO2.out.t.lt q hq).1;have:=HAr.out.lt;omega) ⟨w.heap.size + 1 + 1,4,none⟩ (.slice b1 n1 b3) rfl) (b:=w.heap.size + 1 + 1) (fun q hq => by have:=(HO2.out.t.lt q hq).1;have:=HAr.out.lt;omega) ⟨w.heap.size + 1 + 1,5,none⟩ (.slice a7 N c7) rfl) (b:=w.heap.size + 1 + 1) (fun q hq => by have:=(HO2.out.t.lt q hq).1;have:=HAr.out.lt;omega) ⟨w.heap.size + 1 + 1,6,none⟩ (.int .i64 0) rfl))
      have HYI : Hid (Y.ownsRow w.heap.size 32 imE.k (.slice a7 N c7) N (imE.flat (itemsL is ⟨3,q1,q2,q3,q4,q5,q6,q7,q8,q9⟩))):=qH (by rw [hYd];exact (own_other (own_other (own_other (own_other (own_other (own_other (own_other (own_other (own_mono HO5.out (show w.heap.size <= w2.heap.size + 1 by have:=HWS.out;omega)) (b:=w2.heap.size) (fun q hq => by have:=HL5.out q hq;omega) ⟨w2.heap.size,5,none⟩ (.slice a7 N c7) rfl) (b:=w.heap.size + 1 + 1) (fun q hq => by have:=HL5.out q hq;have:=HWS.out;omega) ⟨w.heap.size + 1 + 1,0,none⟩ (.int .i64 c0) rfl) (b:=w.heap.size + 1 + 1) (fun q hq => by have:=HL5.out q hq;have:=HWS.out;omega) ⟨w.heap.size + 1 + 1,1,none⟩ (.int .i64 c1) rfl) (b:=w.heap.size + 1 + 1) (fun q hq => by have:=HL5.out q hq;have:=HWS.out;omega) ⟨w.heap.size + 1 + 1,2,none⟩ (.int .i64 c2) rfl) (b:=w.heap.size + 1 + 1) (fun q hq => by have:=HL5.out q hq;have:=HWS.out;omega) ⟨w.heap.size + 1 + 1,3,none⟩ (.int .i64 c3) rfl) (b:=w.heap.size + 1 + 1) (fun q hq => by have:=HL5.out q hq;have:=HWS.out;omega) ⟨w.heap.size + 1 + 1,4,none⟩ (.slice b1 n1 b3) rfl) (b:=w.heap.size + 1 + 1) (fun q hq => by have:=HL5.out q hq;have:=HWS.out;omega) ⟨w.heap.size + 1 + 1,5,none⟩ (.slice a7 N c7) rfl) (b:=w.heap.size + 1 + 1) (fun q hq => by have:=HL5.out q hq;have:=HWS.out;omega) ⟨w.heap.size + 1 + 1,6,none⟩ (.int .i64 0) rfl))
      rw [<- hYd] at hY HYB
      have g0:=hY.cell 0 _ rfl
      have g1:=hY.cell 1 _ rfl
      have g2:=hY.cell 2 _ rfl
      have g3:=hY.cell 3 _ rfl
      have g4:=hY.cell 4 _ rfl
      have g5:=hY.cell 5 _ rfl
      have g6:=hY.cell 6 _ rfl
      have HRR : Hid (itemsR ⟨c0,c1,c2,c3,ts,is⟩ ⟨3,q1,q2,q3,q4,q5,q6,q7,q8,q9⟩ = (⟨c0,c1,c2,c3,ts,itemsL is ⟨3,q1,q2,q3,q4,q5,q6,q7,q8,q9⟩⟩,0)):=qH (by unfold itemsR;dsimp only;rw [hl1,hl2];simp only [HHAS.out];first | (rw [if_neg (by omega),if_neg (by simp;try omega),if_neg (by simp;try omega)]) | (rw [if_neg (by simp;omega),if_neg (by simp;omega),if_neg (by simp)]) | (simp;omega))
      rw [HRR.out,<- hYd]
      exact bodyPost_ret (v:=.agg #[.int .i64 c0,.int .i64 c1,.int .i64 c2,.int .i64 c3,.slice b1 n1 b3,.slice a7 N c7,.int .i64 0]) (by simp [results,Tryz.results85,go_sem,g0,g1,g2,g3,g4,g5,g6]) rfl ⟨b1,n1,b3,a7,N,c7,rfl,⟨HYT.out,HYI.out⟩,HYB.out⟩
   · have HHAS : Hid (hasI is q7 = true):=qH (by unfold hasI;rw [<- HK.out,hnm,hl2,decide_eq_true hlt];rfl)
     have hne:=(toList_eqb (is.getD k imD).nm q7).trans hnm
     generalize (is.getD k imD).nm = pm at *
     go_wp2_with fail
     go_quiet (fail)
     rcases HOK.out with ⟨rfl,htm,hh⟩ | ⟨rfl,hh⟩
     · skip
       have htm2 : decide ((n1 : Int) < q8) = false:=decide_eq_false (by omega)
       have y0 : ∀ q,(W.drewN q).cell? ⟨w.heap.size,0,none⟩ = some (.int .i64 c0):=fun q => HAb.out.cell 0 _ rfl
       have y1 : ∀ q,(W.drewN q).cell? ⟨w.heap.size,1,none⟩ = some (.int .i64 c1):=fun q => HAb.out.cell 1 _ rfl
       have y2 : ∀ q,(W.drewN q).cell? ⟨w.heap.size,2,none⟩ = some (.int .i64 c2):=fun q => HAb.out.cell 2 _ rfl
       have y3 : ∀ q,(W.drewN q).cell? ⟨w.heap.size,3,none⟩ = some (.int .i64 c3):=fun q => HAb.out.cell 3 _ rfl
       have y4 : ∀ q,(W.drewN q).cell? ⟨w.heap.size,4,none⟩ = some (.slice a1 n1 a3):=fun q => HAb.out.cell 4 _ rfl
       have y5:=fun q => (show (W.drewN q).cell? ⟨w.heap.size,5,none⟩ = _ from HAb.out.cell 5 _ rfl)
       have HW : Hid (∀ q,Below w.heap.size w (W.drewN q)):=qH (fun q => ⟨HB0.out.os,HB0.out.tape,HB0.out.output,HB0.out.size,HB0.out.block⟩)
       have HWW : Hid (∀ q,Below W.heap.size W (W.drewN q)):=qH (fun q => ⟨rfl,rfl,rfl,Nat.le_refl _,fun _ _ => rfl⟩)
       go_wp2_with fail
       refine (l07Copy_any c0 c1 c2 c3 _ _ n1 n2 a3 a4 ts is _ (HR.out.below (HW.out _)) (by omega) (by omega)).mono ?_
       rintro e w2 ⟨b1,m1,b3,b2,m2,b4,rfl,ho,hb⟩
       have hm1 : m1 = n1:=ho.len.1.symm.trans hl1
       have hm2 : m2 = n2:=ho.len.2.symm.trans hl2
       rw [hm1,hm2] at ho
       have HO2 : Hid (BkO w2 W.heap.size b1 n1 b3 b2 n2 b4 ts is):=qH ho
       have HWD:=qH ((HWW.out _).trans hb)
       rw [hm1,hm2]
       clear ho hb y0 y1 y2 y3 y4 y5 hm1 hm2 m1 m2
       have HB2:=qH (HB0.out.trans (HWD.out.mono HB0.out.size))
       obtain ⟨i2,hi2,hz2,hs2,hy2⟩:=info_parts infoItem
       obtain ⟨V,hV⟩ : ∃ V,V = (w2.alloc (.cells #[.int .i64 c0,.int .i64 c1,.int .i64 c2,.int .i64 c3,.slice b1 n1 b3,.slice b2 n2 b4] 28)).alloc (.cells #[] 32):=⟨_,rfl⟩
       have HWV : Hid (Below W.heap.size W V):=qH (by rw [hV];exact (HWD.out.alloc HWD.out.size _).alloc (Nat.le_trans HWD.out.size (by simp)) _)
       have HBV : Hid (Below w.heap.size w V):=qH (HB0.out.trans (HWV.out.mono HB0.out.size))
       have HVo : Hid (BoxC V w2.heap.size [.int .i64 c0,.int .i64 c1,.int .i64 c2,.int .i64 c3,.slice b1 n1 b3,.slice b2 n2 b4]):=qH (by rw [hV];exact (BoxC.made _ _ _).alloc _)
       have HVT : Hid (V.ownsRow W.heap.size 30 tmE.k (.slice b1 n1 b3) n1 (tmE.flat ts)):=qH (by rw [hV];exact World.ownsRow.alloc (World.ownsRow.alloc HO2.out.t _) _)
       have HVL : Hid (V.ownsRow (w2.heap.size + 1) 32 imE.k (.slice (some ⟨w2.heap.size + 1,0,none⟩) 0 0) 0 (imE.flat [])):=qH (by rw [hV];have:=own_made0 imE (w2.alloc (.cells #[.int .i64 c0,.int .i64 c1,.int .i64 c2,.int .i64 c3,.slice b1 n1 b3,.slice b2 n2 b4] 28)) 32 (base:=w2.heap.size + 1) (by simp);rwa [World.size_alloc] at this)
       have HVS : Hid (w2.heap.size + 1 < V.heap.size):=qH (by rw [hV];simp)
       have HWS : Hid (w.heap.size + 1 + 1 < w2.heap.size):=qH (Nat.lt_of_lt_of_le HAr.out.lt HWD.out.size)
       have HTL : Hid (∀ q,(Value.slice b1 n1 b3).ownBlock = some q -> q < w2.heap.size):=qH (fun q hq => (HO2.out.t.lt q hq).2)
       have HBoV:=HVo
       have HBbV:=qH (HAb.out.below HWV.out)
       have HBdV:=qH (HAd.out.below HWV.out)
       have HBrV:=qH (HAr.out.below HWV.out)
       have HTV:=HVT
       have HSV:=HVS
       have HLWV : Hid (∀ q,(Value.slice (some ⟨w2.heap.size + 1,0,none⟩) 0 0).ownBlock = some q -> w2.heap.size + 1 <= q):=qH (fun q hq => (HVL.out.lt q hq).1)
       have x5V:=HBbV.out.cell 5 _ rfl
       have HRV:=qH (HR.out.below HBV.out)
       have hcut:=fun W => cut_to_items W (some ⟨g,o,none⟩) n2 a4 k (Nat.le_trans hat (by rw [hl2];exact HR.out.i.le))
       have hkpn : (k + 1) <= n2:=by omega
       have hk64 : IntKind.i64.wrap ((k : Int) + 1) = ((k + 1 : Nat) : Int):=by rw [IntWalk.i64_in _ (by omega)];omega
       rw [hV] at x5V
       have HIL : Hid (is.take k ++ [(⟨q7,q8,q9⟩ : Im)] ++ is.drop (k + 1) = itemsL is ⟨3,q1,q2,q3,q4,q5,q6,q7,q8,q9⟩):=qH (by unfold itemsL;dsimp only;rw [<- HK.out,HHAS.out];simp [imOf])
       obtain ⟨N,hN⟩ : ∃ N,N = k + 1 + (n2 - (k + 1)):=⟨_,rfl⟩
       have HN:=qH hN.symm
       clear hN
       have hne1 : ¬ w2.heap.size = w.heap.size + 1 + 1:=by have:=HWS.out;omega
       have hne2 : ¬ w.heap.size + 1 + 1 = w2.heap.size:=by have:=HWS.out;omega
       go_wp2_with (first | (at_builtin;refine append_wl imE imD rfl _ _ 26 rfl 32 i2 _ 40 Tryz.underlying26 hi2 hz2 hs2 hy2 rfl (by decide) (by decide) (w2.heap.size + 1) _ 0 [] rfl (hV ▸ HVL.out) _ k a4 (is.take k) rfl (hV ▸ SR.take HRV.out.i (by omega)) (Nat.le_of_lt (hV ▸ HVS.out)) (by omega) (by omega) ?_;rw [<- hV];intro v3 u3 O3 G3;rw [Nat.zero_add,List.nil_append] at O3;have HO3:=qH O3;have HBo3:=qH (HBoV.out.grown G3 (fun e => by have:=HLWV.out _ e.symm;omega));have HBb3:=qH (HBbV.out.grown G3 (fun e => by have:=HLWV.out _ e.symm;have:=HWS.out;omega));have HBd3:=qH (HBdV.out.grown G3 (fun e => by have:=HLWV.out _ e.symm;have:=HWS.out;omega));have HBr3:=qH (HBrV.out.grown G3 (fun e => by have:=HLWV.out _ e.symm;have:=HWS.out;omega));have HT3:=qH (own_grown HTV.out G3 (fun q hq h2 => by have:=HLWV.out _ h2;have:=HTL.out _ hq;omega));have HB3:=qH (HBV.out.grown G3 HBV.out.size (fun q hq => by have:=HLWV.out _ hq;have:=HWS.out;have:=HWD.out.size;have:=HB0.out.size;omega));have HS3:=qH (Nat.lt_of_lt_of_le HSV.out G3.size);clear O3 G3 x5V;obtain ⟨a5,c5,rfl⟩:=own_shape HO3.out;have HLW3 : Hid (∀ q,(Value.slice a5 k c5).ownBlock = some q -> w2.heap.size + 1 <= q):=qH (fun q hq => (HO3.out.lt q hq).1);have dd0:=HBd3.out.cell 0 _ rfl;have dd7:=HBd3.out.cell 7 _ rfl;have dd8:=HBd3.out.cell 8 _ rfl;have dd9:=HBd3.out.cell 9 _ rfl;have z5:=HBb3.out.cell 5 _ rfl;have HXB : Hid (Below u3.heap.size u3 (u3.alloc (.cells #[.string q7,.int .i64 q8,.string q9] 32))):=qH ((Below.refl _ _).alloc (Nat.le_refl _) _);have HXO:=qH (own_below HO3.out HXB.out);have HXL : Hid (SR imE imD (u3.alloc (.cells #[.string q7,.int .i64 q8,.string q9] 32)) (some ⟨u3.heap.size,0,none⟩) 1 1 [⟨q7,q8,q9⟩]):=qH (SR.own (by decide) (World.ownsRow_lit u3 #[.string q7,.int .i64 q8,.string q9] 1 (Nat.le_refl _) (by decide) rfl));have HBoX:=qH (HBo3.out.below HXB.out);have HBbX:=qH (HBb3.out.below HXB.out);have HBdX:=qH (HBd3.out.below HXB.out);have HBrX:=qH (HBr3.out.below HXB.out);have HTX:=qH (own_below HT3.out HXB.out);have HBX:=qH (HB3.out.trans (HXB.out.mono HB3.out.size));have HSX:=qH (Nat.lt_of_lt_of_le HS3.out HXB.out.size);have HLWX:=HLW3) | (at_builtin;refine append_wl imE imD rfl _ _ 26 rfl 32 i2 _ 40 Tryz.underlying26 hi2 hz2 hs2 hy2 rfl (by decide) (by decide) (w2.heap.size + 1) _ k (is.take k) rfl HXO.out _ 1 1 [⟨q7,q8,q9⟩] rfl HXL.out (Nat.le_of_lt HSX.out) (by omega) (by omega) ?_;intro v4 u4 O4 G4;have HO4:=qH O4;have HBo4:=qH (HBoX.out.grown G4 (fun e => by have:=HLWX.out _ e.symm;omega));have HBb4:=qH (HBbX.out.grown G4 (fun e => by have:=HLWX.out _ e.symm;have:=HWS.out;omega));have HBd4:=qH (HBdX.out.grown G4 (fun e => by have:=HLWX.out _ e.symm;have:=HWS.out;omega));have HBr4:=qH (HBrX.out.grown G4 (fun e => by have:=HLWX.out _ e.symm;have:=HWS.out;omega));have HT4:=qH (own_grown HTX.out G4 (fun q hq h2 => by have:=HLWX.out _ h2;have:=HTL.out _ hq;omega));have HB4:=qH (HBX.out.grown G4 HBX.out.size (fun q hq => by have:=HLWX.out _ hq;have:=HWS.out;have:=HWD.out.size;have:=HB0.out.size;omega));have HS4:=qH (Nat.lt_of_lt_of_le HSX.out G4.size);clear O4 G4 z5 dd0 dd7 dd8 dd9;obtain ⟨a6,c6,rfl⟩:=own_shape HO4.out;have HLW4 : Hid (∀ q,(Value.slice a6 (k + 1) c6).ownBlock = some q -> w2.heap.size + 1 <= q):=qH (fun q hq => (HO4.out.lt q hq).1);have z5:=HBb4.out.cell 5 _ rfl;have dd0:=HBd4.out.cell 0 _ rfl) | (at_builtin;refine append_wl imE imD rfl _ _ 26 rfl 32 i2 _ 40 Tryz.underlying26 hi2 hz2 hs2 hy2 rfl (by decide) (by decide) (w2.heap.size + 1) _ (k + 1) (is.take k ++ [(⟨q7,q8,q9⟩ : Im)]) rfl HO4.out _ (n2 - (k + 1)) (a4 - (k + 1)) (is.drop (k + 1)) rfl (by first | exact items_drop2 (HR.out.below HB4.out).i hkpn | exact items_drop (HR.out.below HB4.out).i hkpn) (Nat.le_of_lt HS4.out) (by omega) (by omega) ?_;intro v5 u5 O5 G5;rw [HIL.out,HN.out] at O5;have HO5:=qH O5;have HBo5:=qH (HBo4.out.grown G5 (fun e => by have:=HLW4.out _ e.symm;omega));have HBr5:=qH (HBr4.out.grown G5 (fun e => by have:=HLW4.out _ e.symm;have:=HWS.out;omega));have HT5:=qH (own_grown HT4.out G5 (fun q hq h2 => by have:=HLW4.out _ h2;have:=HTL.out _ hq;omega));have HB5:=qH (HB4.out.grown G5 HB4.out.size (fun q hq => by have:=HLW4.out _ hq;have:=HWS.out;have:=HWD.out.size;have:=HB0.out.size;omega));clear O5 G5 z5 dd0;obtain ⟨a7,c7,rfl⟩:=own_shape HO5.out;have HL5 : Hid (∀ q,(Value.slice a7 N c7).ownBlock = some q -> w2.heap.size + 1 <= q):=qH (fun q hq => (HO5.out.lt q hq).1);have o0:=HBo5.out.cell 0 _ rfl;have o1:=HBo5.out.cell 1 _ rfl;have o2:=HBo5.out.cell 2 _ rfl;have o3:=HBo5.out.cell 3 _ rfl;have o4:=HBo5.out.cell 4 _ rfl;have o5:=HBo5.out.cell 5 _ rfl;have p5:=HBo5.out.free 5;have z0:=HBr5.out.cell 0 _ rfl;have f0:=HBr5.out.free 0;have z1:=HBr5.out.cell 1 _ rfl;have f1:=HBr5.out.free 1;have z2:=HBr5.out.cell 2 _ rfl;have f2:=HBr5.out.free 2;have z3:=HBr5.out.cell 3 _ rfl;have f3:=HBr5.out.free 3;have z4:=HBr5.out.cell 4 _ rfl;have f4:=HBr5.out.free 4;have z5:=HBr5.out.cell 5 _ rfl;have f5:=HBr5.out.free 5;have z6:=HBr5.out.cell 6 _ rfl;have f6:=HBr5.out.free 6))
       all_goals
        have hY:=((((((((HBr5.out.other ⟨w2.heap.size,5,none⟩ (.slice a7 N c7) (by dsimp only;omega)).set (j:=0) (by simp) (.int .i64 c0)).set (j:=1) (by simp) (.int .i64 c1)).set (j:=2) (by simp) (.int .i64 c2)).set (j:=3) (by simp) (.int .i64 c3)).set (j:=4) (by simp) (.slice b1 n1 b3)).set (j:=5) (by simp) (.slice a7 N c7)).set (j:=6) (by simp) (.int .i64 0))
        have HYB:=qH ((((((((HB5.out.setCell (p:=⟨w2.heap.size,5,none⟩) (by dsimp only;have:=HWS.out;omega) (.slice a7 N c7)).setCell (p:=⟨w.heap.size + 1 + 1,0,none⟩) (by dsimp only;omega) (.int .i64 c0)).setCell (p:=⟨w.heap.size + 1 + 1,1,none⟩) (by dsimp only;omega) (.int .i64 c1)).setCell (p:=⟨w.heap.size + 1 + 1,2,none⟩) (by dsimp only;omega) (.int .i64 c2)).setCell (p:=⟨w.heap.size + 1 + 1,3,none⟩) (by dsimp only;omega) (.int .i64 c3)).setCell (p:=⟨w.heap.size + 1 + 1,4,none⟩) (by dsimp only;omega) (.slice b1 n1 b3)).setCell (p:=⟨w.heap.size + 1 + 1,5,none⟩) (by dsimp only;omega) (.slice a7 N c7)).setCell (p:=⟨w.heap.size + 1 + 1,6,none⟩) (by dsimp only;omega) (.int .i64 0))
        obtain ⟨Y,hYd⟩ : ∃ Y,Y = (((((((u5.setCell ⟨w2.heap.size,5,none⟩ (.slice a7 N c7)).setCell ⟨w.heap.size + 1 + 1,0,none⟩ (.int .i64 c0)).setCell ⟨w.heap.size + 1 + 1,1,none⟩ (.int .i64 c1)).setCell ⟨w.heap.size + 1 + 1,2,none⟩ (.int .i64 c2)).setCell ⟨w.heap.size + 1 + 1,3,none⟩ (.int .i64 c3)).setCell ⟨w.heap.size + 1 + 1,4,none⟩ (.slice b1 n1 b3)).setCell ⟨w.heap.size + 1 + 1,5,none⟩ (.slice a7 N c7)).setCell ⟨w.heap.size + 1 + 1,6,none⟩ (.int .i64 0):=⟨_,rfl⟩
        have HYT : Hid (Y.ownsRow w.heap.size 30 tmE.k (.slice b1 n1 b3) n1 (tmE.flat ts)):=qH (by rw [hYd];exact (own_other (own_other (own_other (own_other (own_other (own_other (own_other (own_other (own_mono HT5.out (show w.heap.size <= W.heap.size from HB0.out.size)) (b:=w2.heap.size) (fun q hq => by have:=HTL.out q hq;omega) ⟨w2.heap.size,5,none⟩ (.slice a7 N c7) rfl) (b:=w.heap.size + 1 + 1) (fun q hq => by have:=(HO2.out.t.lt q hq).1;have:=HAr.out.lt;omega) ⟨w.heap.size + 1 + 1,0,none⟩ (.int .i64 c0) rfl) (b:=w.heap.size + 1 + 1) (fun q hq => by have:=(HO2.out.t.lt q hq).1;have:=HAr.out.lt;omega) ⟨w.heap.size + 1 + 1,1,none⟩ (.int .i64 c1) rfl) (b:=w.heap.size + 1 + 1) (fun q hq => by have:=(HO2.out.t.lt q hq).1;have:=HAr.out.lt;omega) ⟨w.heap.size + 1 + 1,2,none⟩ (.int .i64 c2) rfl) (b:=w.heap.size + 1 + 1) (fun q hq => by have:=(HO2.out.t.lt q hq).1;have:=HAr.out.lt;omega) ⟨w.heap.size + 1 + 1,3,none⟩ (.int .i64 c3) rfl) (b:=w.heap.size + 1 + 1) (fun q hq => by have:=(HO2.out.t.lt q hq).1;have:=HAr.out.lt;omega) ⟨w.heap.size + 1 + 1,4,none⟩ (.slice b1 n1 b3) rfl) (b:=w.heap.size + 1 + 1) (fun q hq => by have:=(HO2.out.t.lt q hq).1;have:=HAr.out.lt;omega) ⟨w.heap.size + 1 + 1,5,none⟩ (.slice a7 N c7) rfl) (b:=w.heap.size + 1 + 1) (fun q hq => by have:=(HO2.out.t.lt q hq).1;have:=HAr.out.lt;omega) ⟨w.heap.size + 1 + 1,6,none⟩ (.int .i64 0) rfl))
        have HYI : Hid (Y.ownsRow w.heap.size 32 imE.k (.slice a7 N c7) N (imE.flat (itemsL is ⟨3,q1,q2,q3,q4,q5,q6,q7,q8,q9⟩))):=qH (by rw [hYd];exact (own_other (own_other (own_other (own_other (own_other (own_other (own_other (own_other (own_mono HO5.out (show w.heap.size <= w2.heap.size + 1 by have:=HWS.out;omega)) (b:=w2.heap.size) (fun q hq => by have:=HL5.out q hq;omega) ⟨w2.heap.size,5,none⟩ (.slice a7 N c7) rfl) (b:=w.heap.size + 1 + 1) (fun q hq => by have:=HL5.out q hq;have:=HWS.out;omega) ⟨w.heap.size + 1 + 1,0,none⟩ (.int .i64 c0) rfl) (b:=w.heap.size + 1 + 1) (fun q hq => by have:=HL5.out q hq;have:=HWS.out;omega) ⟨w.heap.size + 1 + 1,1,none⟩ (.int .i64 c1) rfl) (b:=w.heap.size + 1 + 1) (fun q hq => by have:=HL5.out q hq;have:=HWS.out;omega) ⟨w.heap.size + 1 + 1,2,none⟩ (.int .i64 c2) rfl) (b:=w.heap.size + 1 + 1) (fun q hq => by have:=HL5.out q hq;have:=HWS.out;omega) ⟨w.heap.size + 1 + 1,3,none⟩ (.int .i64 c3) rfl) (b:=w.heap.size + 1 + 1) (fun q hq => by have:=HL5.out q hq;have:=HWS.out;omega) ⟨w.heap.size + 1 + 1,4,none⟩ (.slice b1 n1 b3) rfl) (b:=w.heap.size + 1 + 1) (fun q hq => by have:=HL5.out q hq;have:=HWS.out;omega) ⟨w.heap.size + 1 + 1,5,none⟩ (.slice a7 N c7) rfl) (b:=w.heap.size + 1 + 1) (fun q hq => by have:=HL5.out q hq;have:=HWS.out;omega) ⟨w.heap.size + 1 + 1,6,none⟩ (.int .i64 0) rfl))
        rw [<- hYd] at hY HYB
        have g0:=hY.cell 0 _ rfl
        have g1:=hY.cell 1 _ rfl
        have g2:=hY.cell 2 _ rfl
        have g3:=hY.cell 3 _ rfl
        have g4:=hY.cell 4 _ rfl
        have g5:=hY.cell 5 _ rfl
        have g6:=hY.cell 6 _ rfl
        have HRR : Hid (itemsR ⟨c0,c1,c2,c3,ts,is⟩ ⟨3,q1,q2,q3,q4,q5,q6,q7,q8,q9⟩ = (⟨c0,c1,c2,c3,ts,itemsL is ⟨3,q1,q2,q3,q4,q5,q6,q7,q8,q9⟩⟩,0)):=qH (by unfold itemsR;dsimp only;rw [hl1,hl2];simp only [HHAS.out];first | (rw [if_neg (by omega),if_neg (by simp;try omega),if_neg (by simp;try omega)]) | (rw [if_neg (by simp;omega),if_neg (by simp;omega),if_neg (by simp)]) | (simp;omega))
        rw [HRR.out,<- hYd]
        exact bodyPost_ret (v:=.agg #[.int .i64 c0,.int .i64 c1,.int .i64 c2,.int .i64 c3,.slice b1 n1 b3,.slice a7 N c7,.int .i64 0]) (by simp [results,Tryz.results85,go_sem,g0,g1,g2,g3,g4,g5,g6]) rfl ⟨b1,n1,b3,a7,N,c7,rfl,⟨HYT.out,HYI.out⟩,HYB.out⟩
     · skip
       have y0 : ∀ q,(W.drewN q).cell? ⟨w.heap.size,0,none⟩ = some (.int .i64 c0):=fun q => HAb.out.cell 0 _ rfl
       have y1 : ∀ q,(W.drewN q).cell? ⟨w.heap.size,1,none⟩ = some (.int .i64 c1):=fun q => HAb.out.cell 1 _ rfl
       have y2 : ∀ q,(W.drewN q).cell? ⟨w.heap.size,2,none⟩ = some (.int .i64 c2):=fun q => HAb.out.cell 2 _ rfl
       have y3 : ∀ q,(W.drewN q).cell? ⟨w.heap.size,3,none⟩ = some (.int .i64 c3):=fun q => HAb.out.cell 3 _ rfl
       have y4 : ∀ q,(W.drewN q).cell? ⟨w.heap.size,4,none⟩ = some (.slice a1 n1 a3):=fun q => HAb.out.cell 4 _ rfl
       have y5:=fun q => (show (W.drewN q).cell? ⟨w.heap.size,5,none⟩ = _ from HAb.out.cell 5 _ rfl)
       have HW : Hid (∀ q,Below w.heap.size w (W.drewN q)):=qH (fun q => ⟨HB0.out.os,HB0.out.tape,HB0.out.output,HB0.out.size,HB0.out.block⟩)
       have HWW : Hid (∀ q,Below W.heap.size W (W.drewN q)):=qH (fun q => ⟨rfl,rfl,rfl,Nat.le_refl _,fun _ _ => rfl⟩)
       go_wp2_with fail
       refine (l07Copy_any c0 c1 c2 c3 _ _ n1 n2 a3 a4 ts is _ (HR.out.below (HW.out _)) (by omega) (by omega)).mono ?_
       rintro e w2 ⟨b1,m1,b3,b2,m2,b4,rfl,ho,hb⟩
       have hm1 : m1 = n1:=ho.len.1.symm.trans hl1
       have hm2 : m2 = n2:=ho.len.2.symm.trans hl2
       rw [hm1,hm2] at ho
       have HO2 : Hid (BkO w2 W.heap.size b1 n1 b3 b2 n2 b4 ts is):=qH ho
       have HWD:=qH ((HWW.out _).trans hb)
       rw [hm1,hm2]
       clear ho hb y0 y1 y2 y3 y4 y5 hm1 hm2 m1 m2
       have HB2:=qH (HB0.out.trans (HWD.out.mono HB0.out.size))
       obtain ⟨i2,hi2,hz2,hs2,hy2⟩:=info_parts infoItem
       obtain ⟨V,hV⟩ : ∃ V,V = (w2.alloc (.cells #[.int .i64 c0,.int .i64 c1,.int .i64 c2,.int .i64 c3,.slice b1 n1 b3,.slice b2 n2 b4] 28)).alloc (.cells #[] 32):=⟨_,rfl⟩
       have HWV : Hid (Below W.heap.size W V):=qH (by rw [hV];exact (HWD.out.alloc HWD.out.size _).alloc (Nat.le_trans HWD.out.size (by simp)) _)
       have HBV : Hid (Below w.heap.size w V):=qH (HB0.out.trans (HWV.out.mono HB0.out.size))
       have HVo : Hid (BoxC V w2.heap.size [.int .i64 c0,.int .i64 c1,.int .i64 c2,.int .i64 c3,.slice b1 n1 b3,.slice b2 n2 b4]):=qH (by rw [hV];exact (BoxC.made _ _ _).alloc _)
       have HVT : Hid (V.ownsRow W.heap.size 30 tmE.k (.slice b1 n1 b3) n1 (tmE.flat ts)):=qH (by rw [hV];exact World.ownsRow.alloc (World.ownsRow.alloc HO2.out.t _) _)
       have HVL : Hid (V.ownsRow (w2.heap.size + 1) 32 imE.k (.slice (some ⟨w2.heap.size + 1,0,none⟩) 0 0) 0 (imE.flat [])):=qH (by rw [hV];have:=own_made0 imE (w2.alloc (.cells #[.int .i64 c0,.int .i64 c1,.int .i64 c2,.int .i64 c3,.slice b1 n1 b3,.slice b2 n2 b4] 28)) 32 (base:=w2.heap.size + 1) (by simp);rwa [World.size_alloc] at this)
       have HVS : Hid (w2.heap.size + 1 < V.heap.size):=qH (by rw [hV];simp)
       have HWS : Hid (w.heap.size + 1 + 1 < w2.heap.size):=qH (Nat.lt_of_lt_of_le HAr.out.lt HWD.out.size)
       have HTL : Hid (∀ q,(Value.slice b1 n1 b3).ownBlock = some q -> q < w2.heap.size):=qH (fun q hq => (HO2.out.t.lt q hq).2)
       have HBoV:=HVo
       have HBbV:=qH (HAb.out.below HWV.out)
       have HBdV:=qH (HAd.out.below HWV.out)
       have HBrV:=qH (HAr.out.below HWV.out)
       have HTV:=HVT
       have HSV:=HVS
       have HLWV : Hid (∀ q,(Value.slice (some ⟨w2.heap.size + 1,0,none⟩) 0 0).ownBlock = some q -> w2.heap.size + 1 <= q):=qH (fun q hq => (HVL.out.lt q hq).1)
       have x5V:=HBbV.out.cell 5 _ rfl
       have HRV:=qH (HR.out.below HBV.out)
       have hcut:=fun W => cut_to_items W (some ⟨g,o,none⟩) n2 a4 k (Nat.le_trans hat (by rw [hl2];exact HR.out.i.le))
       have hkpn : (k + 1) <= n2:=by omega
       have hk64 : IntKind.i64.wrap ((k : Int) + 1) = ((k + 1 : Nat) : Int):=by rw [IntWalk.i64_in _ (by omega)];omega
       rw [hV] at x5V
       have HIL : Hid (is.take k ++ is.drop (k + 1) = itemsL is ⟨4,q1,q2,q3,q4,q5,q6,q7,q8,q9⟩):=qH (by unfold itemsL;dsimp only;rw [<- HK.out,HHAS.out];simp)
       obtain ⟨N,hN⟩ : ∃ N,N = k + (n2 - (k + 1)):=⟨_,rfl⟩
       have HN:=qH hN.symm
       clear hN
       have hne1 : ¬ w2.heap.size = w.heap.size + 1 + 1:=by have:=HWS.out;omega
       have hne2 : ¬ w.heap.size + 1 + 1 = w2.heap.size:=by have:=HWS.out;omega
       go_wp2_with (first | (at_builtin;refine append_wl imE imD rfl _ _ 26 rfl 32 i2 _ 40 Tryz.underlying26 hi2 hz2 hs2 hy2 rfl (by decide) (by decide) (w2.heap.size + 1) _ 0 [] rfl (hV ▸ HVL.out) _ k a4 (is.take k) rfl (hV ▸ SR.take HRV.out.i (by omega)) (Nat.le_of_lt (hV ▸ HVS.out)) (by omega) (by omega) ?_;rw [<- hV];intro v3 u3 O3 G3;rw [Nat.zero_add,List.nil_append] at O3;have HO3:=qH O3;have HBo3:=qH (HBoV.out.grown G3 (fun e => by have:=HLWV.out _ e.symm;omega));have HBb3:=qH (HBbV.out.grown G3 (fun e => by have:=HLWV.out _ e.symm;have:=HWS.out;omega));have HBd3:=qH (HBdV.out.grown G3 (fun e => by have:=HLWV.out _ e.symm;have:=HWS.out;omega));have HBr3:=qH (HBrV.out.grown G3 (fun e => by have:=HLWV.out _ e.symm;have:=HWS.out;omega));have HT3:=qH (own_grown HTV.out G3 (fun q hq h2 => by have:=HLWV.out _ h2;have:=HTL.out _ hq;omega));have HB3:=qH (HBV.out.grown G3 HBV.out.size (fun q hq => by have:=HLWV.out _ hq;have:=HWS.out;have:=HWD.out.size;have:=HB0.out.size;omega));have HS3:=qH (Nat.lt_of_lt_of_le HSV.out G3.size);clear O3 G3 x5V;obtain ⟨a5,c5,rfl⟩:=own_shape HO3.out;have HLW3 : Hid (∀ q,(Value.slice a5 k c5).ownBlock = some q -> w2.heap.size + 1 <= q):=qH (fun q hq => (HO3.out.lt q hq).1);have dd0:=HBd3.out.cell 0 _ rfl;have dd7:=HBd3.out.cell 7 _ rfl;have dd8:=HBd3.out.cell 8 _ rfl;have dd9:=HBd3.out.cell 9 _ rfl;have z5:=HBb3.out.cell 5 _ rfl) | (at_builtin;refine append_wl imE imD rfl _ _ 26 rfl 32 i2 _ 40 Tryz.underlying26 hi2 hz2 hs2 hy2 rfl (by decide) (by decide) (w2.heap.size + 1) _ k (is.take k) rfl HO3.out _ (n2 - (k + 1)) (a4 - (k + 1)) (is.drop (k + 1)) rfl (by first | exact items_drop2 (HR.out.below HB3.out).i hkpn | exact items_drop (HR.out.below HB3.out).i hkpn) (Nat.le_of_lt HS3.out) (by omega) (by omega) ?_;intro v5 u5 O5 G5;rw [HIL.out,HN.out] at O5;have HO5:=qH O5;have HBo5:=qH (HBo3.out.grown G5 (fun e => by have:=HLW3.out _ e.symm;omega));have HBr5:=qH (HBr3.out.grown G5 (fun e => by have:=HLW3.out _ e.symm;have:=HWS.out;omega));have HT5:=qH (own_grown HT3.out G5 (fun q hq h2 => by have:=HLW3.out _ h2;have:=HTL.out _ hq;omega));have HB5:=qH (HB3.out.grown G5 HB3.out.size (fun q hq => by have:=HLW3.out _ hq;have:=HWS.out;have:=HWD.out.size;have:=HB0.out.size;omega));clear O5 G5 z5 dd0 dd7 dd8 dd9;obtain ⟨a7,c7,rfl⟩:=own_shape HO5.out;have HL5 : Hid (∀ q,(Value.slice a7 N c7).ownBlock = some q -> w2.heap.size + 1 <= q):=qH (fun q hq => (HO5.out.lt q hq).1);have o0:=HBo5.out.cell 0 _ rfl;have o1:=HBo5.out.cell 1 _ rfl;have o2:=HBo5.out.cell 2 _ rfl;have o3:=HBo5.out.cell 3 _ rfl;have o4:=HBo5.out.cell 4 _ rfl;have o5:=HBo5.out.cell 5 _ rfl;have p5:=HBo5.out.free 5;have z0:=HBr5.out.cell 0 _ rfl;have f0:=HBr5.out.free 0;have z1:=HBr5.out.cell 1 _ rfl;have f1:=HBr5.out.free 1;have z2:=HBr5.out.cell 2 _ rfl;have f2:=HBr5.out.free 2;have z3:=HBr5.out.cell 3 _ rfl;have f3:=HBr5.out.free 3;have z4:=HBr5.out.cell 4 _ rfl;have f4:=HBr5.out.free 4;have z5:=HBr5.out.cell 5 _ rfl;have f5:=HBr5.out.free 5;have z6:=HBr5.out.cell 6 _ rfl;have f6:=HBr5.out.free 6))
       all_goals
        have hY:=((((((((HBr5.out.other ⟨w2.heap.size,5,none⟩ (.slice a7 N c7) (by dsimp only;omega)).set (j:=0) (by simp) (.int .i64 c0)).set (j:=1) (by simp) (.int .i64 c1)).set (j:=2) (by simp) (.int .i64 c2)).set (j:=3) (by simp) (.int .i64 c3)).set (j:=4) (by simp) (.slice b1 n1 b3)).set (j:=5) (by simp) (.slice a7 N c7)).set (j:=6) (by simp) (.int .i64 0))
        have HYB:=qH ((((((((HB5.out.setCell (p:=⟨w2.heap.size,5,none⟩) (by dsimp only;have:=HWS.out;omega) (.slice a7 N c7)).setCell (p:=⟨w.heap.size + 1 + 1,0,none⟩) (by dsimp only;omega) (.int .i64 c0)).setCell (p:=⟨w.heap.size + 1 + 1,1,none⟩) (by dsimp only;omega) (.int .i64 c1)).setCell (p:=⟨w.heap.size + 1 + 1,2,none⟩) (by dsimp only;omega) (.int .i64 c2)).setCell (p:=⟨w.heap.size + 1 + 1,3,none⟩) (by dsimp only;omega) (.int .i64 c3)).setCell (p:=⟨w.heap.size + 1 + 1,4,none⟩) (by dsimp only;omega) (.slice b1 n1 b3)).setCell (p:=⟨w.heap.size + 1 + 1,5,none⟩) (by dsimp only;omega) (.slice a7 N c7)).setCell (p:=⟨w.heap.size + 1 + 1,6,none⟩) (by dsimp only;omega) (.int .i64 0))
        obtain ⟨Y,hYd⟩ : ∃ Y,Y = (((((((u5.setCell ⟨w2.heap.size,5,none⟩ (.slice a7 N c7)).setCell ⟨w.heap.size + 1 + 1,0,none⟩ (.int .i64 c0)).setCell ⟨w.heap.size + 1 + 1,1,none⟩ (.int .i64 c1)).setCell ⟨w.heap.size + 1 + 1,2,none⟩ (.int .i64 c2)).setCell ⟨w.heap.size + 1 + 1,3,none⟩ (.int .i64 c3)).setCell ⟨w.heap.size + 1 + 1,4,none⟩ (.slice b1 n1 b3)).setCell ⟨w.heap.size + 1 + 1,5,none⟩ (.slice a7 N c7)).setCell ⟨w.heap.size + 1 + 1,6,none⟩ (.int .i64 0):=⟨_,rfl⟩
        have HYT : Hid (Y.ownsRow w.heap.size 30 tmE.k (.slice b1 n1 b3) n1 (tmE.flat ts)):=qH (by rw [hYd];exact (own_other (own_other (own_other (own_other (own_other (own_other (own_other (own_other (own_mono HT5.out (show w.heap.size <= W.heap.size from HB0.out.size)) (b:=w2.heap.size) (fun q hq => by have:=HTL.out q hq;omega) ⟨w2.heap.size,5,none⟩ (.slice a7 N c7) rfl) (b:=w.heap.size + 1 + 1) (fun q hq => by have:=(HO2.out.t.lt q hq).1;have:=HAr.out.lt;omega) ⟨w.heap.size + 1 + 1,0,none⟩ (.int .i64 c0) rfl) (b:=w.heap.size + 1 + 1) (fun q hq => by have:=(HO2.out.t.lt q hq).1;have:=HAr.out.lt;omega) ⟨w.heap.size + 1 + 1,1,none⟩ (.int .i64 c1) rfl) (b:=w.heap.size + 1 + 1) (fun q hq => by have:=(HO2.out.t.lt q hq).1;have:=HAr.out.lt;omega) ⟨w.heap.size + 1 + 1,2,none⟩ (.int .i64 c2) rfl) (b:=w.heap.size + 1 + 1) (fun q hq => by have:=(HO2.out.t.lt q hq).1;have:=HAr.out.lt;omega) ⟨w.heap.size + 1 + 1,3,none⟩ (.int .i64 c3) rfl) (b:=w.heap.size + 1 + 1) (fun q hq => by have:=(HO2.out.t.lt q hq).1;have:=HAr.out.lt;omega) ⟨w.heap.size + 1 + 1,4,none⟩ (.slice b1 n1 b3) rfl) (b:=w.heap.size + 1 + 1) (fun q hq => by have:=(HO2.out.t.lt q hq).1;have:=HAr.out.lt;omega) ⟨w.heap.size + 1 + 1,5,none⟩ (.slice a7 N c7) rfl) (b:=w.heap.size + 1 + 1) (fun q hq => by have:=(HO2.out.t.lt q hq).1;have:=HAr.out.lt;omega) ⟨w.heap.size + 1 + 1,6,none⟩ (.int .i64 0) rfl))
        have HYI : Hid (Y.ownsRow w.heap.size 32 imE.k (.slice a7 N c7) N (imE.flat (itemsL is ⟨4,q1,q2,q3,q4,q5,q6,q7,q8,q9⟩))):=qH (by rw [hYd];exact (own_other (own_other (own_other (own_other (own_other (own_other (own_other (own_other (own_mono HO5.out (show w.heap.size <= w2.heap.size + 1 by have:=HWS.out;omega)) (b:=w2.heap.size) (fun q hq => by have:=HL5.out q hq;omega) ⟨w2.heap.size,5,none⟩ (.slice a7 N c7) rfl) (b:=w.heap.size + 1 + 1) (fun q hq => by have:=HL5.out q hq;have:=HWS.out;omega) ⟨w.heap.size + 1 + 1,0,none⟩ (.int .i64 c0) rfl) (b:=w.heap.size + 1 + 1) (fun q hq => by have:=HL5.out q hq;have:=HWS.out;omega) ⟨w.heap.size + 1 + 1,1,none⟩ (.int .i64 c1) rfl) (b:=w.heap.size + 1 + 1) (fun q hq => by have:=HL5.out q hq;have:=HWS.out;omega) ⟨w.heap.size + 1 + 1,2,none⟩ (.int .i64 c2) rfl) (b:=w.heap.size + 1 + 1) (fun q hq => by have:=HL5.out q hq;have:=HWS.out;omega) ⟨w.heap.size + 1 + 1,3,none⟩ (.int .i64 c3) rfl) (b:=w.heap.size + 1 + 1) (fun q hq => by have:=HL5.out q hq;have:=HWS.out;omega) ⟨w.heap.size + 1 + 1,4,none⟩ (.slice b1 n1 b3) rfl) (b:=w.heap.size + 1 + 1) (fun q hq => by have:=HL5.out q hq;have:=HWS.out;omega) ⟨w.heap.size + 1 + 1,5,none⟩ (.slice a7 N c7) rfl) (b:=w.heap.size + 1 + 1) (fun q hq => by have:=HL5.out q hq;have:=HWS.out;omega) ⟨w.heap.size + 1 + 1,6,none⟩ (.int .i64 0) rfl))
        rw [<- hYd] at hY HYB
        have g0:=hY.cell 0 _ rfl
        have g1:=hY.cell 1 _ rfl
        have g2:=hY.cell 2 _ rfl
        have g3:=hY.cell 3 _ rfl
        have g4:=hY.cell 4 _ rfl
        have g5:=hY.cell 5 _ rfl
        have g6:=hY.cell 6 _ rfl
        have HRR : Hid (itemsR ⟨c0,c1,c2,c3,ts,is⟩ ⟨4,q1,q2,q3,q4,q5,q6,q7,q8,q9⟩ = (⟨c0,c1,c2,c3,ts,itemsL is ⟨4,q1,q2,q3,q4,q5,q6,q7,q8,q9⟩⟩,0)):=qH (by unfold itemsR;dsimp only;rw [hl1,hl2];simp only [HHAS.out];first | (rw [if_neg (by omega),if_neg (by simp;try omega),if_neg (by simp;try omega)]) | (rw [if_neg (by simp;omega),if_neg (by simp;omega),if_neg (by simp)]) | (simp;omega))
        rw [HRR.out,<- hYd]
        exact bodyPost_ret (v:=.agg #[.int .i64 c0,.int .i64 c1,.int .i64 c2,.int .i64 c3,.slice b1 n1 b3,.slice a7 N c7,.int .i64 0]) (by simp [results,Tryz.results85,go_sem,g0,g1,g2,g3,g4,g5,g6]) rfl ⟨b1,n1,b3,a7,N,c7,rfl,⟨HYT.out,HYI.out⟩,HYB.out⟩
 · have HHAS : Hid (hasI is q7 = false):=qH (by unfold hasI;rw [<- HK.out,hl2,decide_eq_false hlt,Bool.false_and])
   have hlk : decide (k < n2) = false:=decide_eq_false hlt
   have hlk2 : decide ((k : Int) < (n2 : Int)) = false:=decide_eq_false (by omega)
   go_wp2_with fail
   go_quiet (fail)
   obtain ⟨rfl,htm,hh⟩ : q0 = 3 /\ ¬ (n1 : Int) < q8 /\ n2 < 8:=by
    rcases HOK.out with ⟨h1,h2,h3⟩ | ⟨_,h3⟩
    · exact ⟨h1,by omega,h3.resolve_left (by rw [HHAS.out];decide)⟩
    · rw [HHAS.out] at h3;cases h3
   have htm2 : decide ((n1 : Int) < q8) = false:=decide_eq_false (by omega)
   have hn8 : ¬ (8 : Int) <= (n2 : Int):=by omega
   have y0 : ∀ q,(W.drewN q).cell? ⟨w.heap.size,0,none⟩ = some (.int .i64 c0):=fun q => HAb.out.cell 0 _ rfl
   have y1 : ∀ q,(W.drewN q).cell? ⟨w.heap.size,1,none⟩ = some (.int .i64 c1):=fun q => HAb.out.cell 1 _ rfl
   have y2 : ∀ q,(W.drewN q).cell? ⟨w.heap.size,2,none⟩ = some (.int .i64 c2):=fun q => HAb.out.cell 2 _ rfl
   have y3 : ∀ q,(W.drewN q).cell? ⟨w.heap.size,3,none⟩ = some (.int .i64 c3):=fun q => HAb.out.cell 3 _ rfl
   have y4 : ∀ q,(W.drewN q).cell? ⟨w.heap.size,4,none⟩ = some (.slice a1 n1 a3):=fun q => HAb.out.cell 4 _ rfl
   have y5:=fun q => (show (W.drewN q).cell? ⟨w.heap.size,5,none⟩ = _ from HAb.out.cell 5 _ rfl)
   have HW : Hid (∀ q,Below w.heap.size w (W.drewN q)):=qH (fun q => ⟨HB0.out.os,HB0.out.tape,HB0.out.output,HB0.out.size,HB0.out.block⟩)
   have HWW : Hid (∀ q,Below W.heap.size W (W.drewN q)):=qH (fun q => ⟨rfl,rfl,rfl,Nat.le_refl _,fun _ _ => rfl⟩)
   go_wp2_with fail
   refine (l07Copy_any c0 c1 c2 c3 _ _ n1 n2 a3 a4 ts is _ (HR.out.below (HW.out _)) (by omega) (by omega)).mono ?_
   rintro e w2 ⟨b1,m1,b3,b2,m2,b4,rfl,ho,hb⟩
   have hm1 : m1 = n1:=ho.len.1.symm.trans hl1
   have hm2 : m2 = n2:=ho.len.2.symm.trans hl2
   rw [hm1,hm2] at ho
   have HO2 : Hid (BkO w2 W.heap.size b1 n1 b3 b2 n2 b4 ts is):=qH ho
   have HWD:=qH ((HWW.out _).trans hb)
   rw [hm1,hm2]
   clear ho hb y0 y1 y2 y3 y4 y5 hm1 hm2 m1 m2
   have HB2:=qH (HB0.out.trans (HWD.out.mono HB0.out.size))
   obtain ⟨i2,hi2,hz2,hs2,hy2⟩:=info_parts infoItem
   obtain ⟨V,hV⟩ : ∃ V,V = (w2.alloc (.cells #[.int .i64 c0,.int .i64 c1,.int .i64 c2,.int .i64 c3,.slice b1 n1 b3,.slice b2 n2 b4] 28)).alloc (.cells #[] 32):=⟨_,rfl⟩
   have HWV : Hid (Below W.heap.size W V):=qH (by rw [hV];exact (HWD.out.alloc HWD.out.size _).alloc (Nat.le_trans HWD.out.size (by simp)) _)
   have HBV : Hid (Below w.heap.size w V):=qH (HB0.out.trans (HWV.out.mono HB0.out.size))
   have HVo : Hid (BoxC V w2.heap.size [.int .i64 c0,.int .i64 c1,.int .i64 c2,.int .i64 c3,.slice b1 n1 b3,.slice b2 n2 b4]):=qH (by rw [hV];exact (BoxC.made _ _ _).alloc _)
   have HVT : Hid (V.ownsRow W.heap.size 30 tmE.k (.slice b1 n1 b3) n1 (tmE.flat ts)):=qH (by rw [hV];exact World.ownsRow.alloc (World.ownsRow.alloc HO2.out.t _) _)
   have HVL : Hid (V.ownsRow (w2.heap.size + 1) 32 imE.k (.slice (some ⟨w2.heap.size + 1,0,none⟩) 0 0) 0 (imE.flat [])):=qH (by rw [hV];have:=own_made0 imE (w2.alloc (.cells #[.int .i64 c0,.int .i64 c1,.int .i64 c2,.int .i64 c3,.slice b1 n1 b3,.slice b2 n2 b4] 28)) 32 (base:=w2.heap.size + 1) (by simp);rwa [World.size_alloc] at this)
   have HVS : Hid (w2.heap.size + 1 < V.heap.size):=qH (by rw [hV];simp)
   have HWS : Hid (w.heap.size + 1 + 1 < w2.heap.size):=qH (Nat.lt_of_lt_of_le HAr.out.lt HWD.out.size)
   have HTL : Hid (∀ q,(Value.slice b1 n1 b3).ownBlock = some q -> q < w2.heap.size):=qH (fun q hq => (HO2.out.t.lt q hq).2)
   have HBoV:=HVo
   have HBbV:=qH (HAb.out.below HWV.out)
   have HBdV:=qH (HAd.out.below HWV.out)
   have HBrV:=qH (HAr.out.below HWV.out)
   have HTV:=HVT
   have HSV:=HVS
   have HLWV : Hid (∀ q,(Value.slice (some ⟨w2.heap.size + 1,0,none⟩) 0 0).ownBlock = some q -> w2.heap.size + 1 <= q):=qH (fun q hq => (HVL.out.lt q hq).1)
   have x5V:=HBbV.out.cell 5 _ rfl
   have HRV:=qH (HR.out.below HBV.out)
   have hcut:=fun W => cut_to_items W a2 n2 a4 k (Nat.le_trans hat (by rw [hl2];exact HR.out.i.le))
   have hkpn : k <= n2:=by omega
   have hk64 : IntKind.i64.wrap ((k : Int) + 1) = ((k + 1 : Nat) : Int):=by rw [IntWalk.i64_in _ (by omega)];omega
   rw [hV] at x5V
   have HIL : Hid (is.take k ++ [(⟨q7,q8,q9⟩ : Im)] ++ is.drop k = itemsL is ⟨3,q1,q2,q3,q4,q5,q6,q7,q8,q9⟩):=qH (by unfold itemsL;dsimp only;rw [<- HK.out,HHAS.out];simp [imOf])
   obtain ⟨N,hN⟩ : ∃ N,N = k + 1 + (n2 - k):=⟨_,rfl⟩
   have HN:=qH hN.symm
   clear hN
   have hne1 : ¬ w2.heap.size = w.heap.size + 1 + 1:=by have:=HWS.out;omega
   have hne2 : ¬ w.heap.size + 1 + 1 = w2.heap.size:=by have:=HWS.out;omega
   go_wp2_with (first | (at_builtin;refine append_wl imE imD rfl _ _ 26 rfl 32 i2 _ 40 Tryz.underlying26 hi2 hz2 hs2 hy2 rfl (by decide) (by decide) (w2.heap.size + 1) _ 0 [] rfl (hV ▸ HVL.out) _ k a4 (is.take k) rfl (hV ▸ SR.take HRV.out.i (by omega)) (Nat.le_of_lt (hV ▸ HVS.out)) (by omega) (by omega) ?_;rw [<- hV];intro v3 u3 O3 G3;rw [Nat.zero_add,List.nil_append] at O3;have HO3:=qH O3;have HBo3:=qH (HBoV.out.grown G3 (fun e => by have:=HLWV.out _ e.symm;omega));have HBb3:=qH (HBbV.out.grown G3 (fun e => by have:=HLWV.out _ e.symm;have:=HWS.out;omega));have HBd3:=qH (HBdV.out.grown G3 (fun e => by have:=HLWV.out _ e.symm;have:=HWS.out;omega));have HBr3:=qH (HBrV.out.grown G3 (fun e => by have:=HLWV.out _ e.symm;have:=HWS.out;omega));have HT3:=qH (own_grown HTV.out G3 (fun q hq h2 => by have:=HLWV.out _ h2;have:=HTL.out _ hq;omega));have HB3:=qH (HBV.out.grown G3 HBV.out.size (fun q hq => by have:=HLWV.out _ hq;have:=HWS.out;have:=HWD.out.size;have:=HB0.out.size;omega));have HS3:=qH (Nat.lt_of_lt_of_le HSV.out G3.size);clear O3 G3 x5V;obtain ⟨a5,c5,rfl⟩:=own_shape HO3.out;have HLW3 : Hid (∀ q,(Value.slice a5 k c5).ownBlock = some q -> w2.heap.size + 1 <= q):=qH (fun q hq => (HO3.out.lt q hq).1);have dd0:=HBd3.out.cell 0 _ rfl;have dd7:=HBd3.out.cell 7 _ rfl;have dd8:=HBd3.out.cell 8 _ rfl;have dd9:=HBd3.out.cell 9 _ rfl;have z5:=HBb3.out.cell 5 _ rfl;have HXB : Hid (Below u3.heap.size u3 (u3.alloc (.cells #[.string q7,.int .i64 q8,.string q9] 32))):=qH ((Below.refl _ _).alloc (Nat.le_refl _) _);have HXO:=qH (own_below HO3.out HXB.out);have HXL : Hid (SR imE imD (u3.alloc (.cells #[.string q7,.int .i64 q8,.string q9] 32)) (some ⟨u3.heap.size,0,none⟩) 1 1 [⟨q7,q8,q9⟩]):=qH (SR.own (by decide) (World.ownsRow_lit u3 #[.string q7,.int .i64 q8,.string q9] 1 (Nat.le_refl _) (by decide) rfl));have HBoX:=qH (HBo3.out.below HXB.out);have HBbX:=qH (HBb3.out.below HXB.out);have HBdX:=qH (HBd3.out.below HXB.out);have HBrX:=qH (HBr3.out.below HXB.out);have HTX:=qH (own_below HT3.out HXB.out);have HBX:=qH (HB3.out.trans (HXB.out.mono HB3.out.size));have HSX:=qH (Nat.lt_of_lt_of_le HS3.out HXB.out.size);have HLWX:=HLW3) | (at_builtin;refine append_wl imE imD rfl _ _ 26 rfl 32 i2 _ 40 Tryz.underlying26 hi2 hz2 hs2 hy2 rfl (by decide) (by decide) (w2.heap.size + 1) _ k (is.take k) rfl HXO.out _ 1 1 [⟨q7,q8,q9⟩] rfl HXL.out (Nat.le_of_lt HSX.out) (by omega) (by omega) ?_;intro v4 u4 O4 G4;have HO4:=qH O4;have HBo4:=qH (HBoX.out.grown G4 (fun e => by have:=HLWX.out _ e.symm;omega));have HBb4:=qH (HBbX.out.grown G4 (fun e => by have:=HLWX.out _ e.symm;have:=HWS.out;omega));have HBd4:=qH (HBdX.out.grown G4 (fun e => by have:=HLWX.out _ e.symm;have:=HWS.out;omega));have HBr4:=qH (HBrX.out.grown G4 (fun e => by have:=HLWX.out _ e.symm;have:=HWS.out;omega));have HT4:=qH (own_grown HTX.out G4 (fun q hq h2 => by have:=HLWX.out _ h2;have:=HTL.out _ hq;omega));have HB4:=qH (HBX.out.grown G4 HBX.out.size (fun q hq => by have:=HLWX.out _ hq;have:=HWS.out;have:=HWD.out.size;have:=HB0.out.size;omega));have HS4:=qH (Nat.lt_of_lt_of_le HSX.out G4.size);clear O4 G4 z5 dd0 dd7 dd8 dd9;obtain ⟨a6,c6,rfl⟩:=own_shape HO4.out;have HLW4 : Hid (∀ q,(Value.slice a6 (k + 1) c6).ownBlock = some q -> w2.heap.size + 1 <= q):=qH (fun q hq => (HO4.out.lt q hq).1);have z5:=HBb4.out.cell 5 _ rfl;have dd0:=HBd4.out.cell 0 _ rfl) | (at_builtin;refine append_wl imE imD rfl _ _ 26 rfl 32 i2 _ 40 Tryz.underlying26 hi2 hz2 hs2 hy2 rfl (by decide) (by decide) (w2.heap.size + 1) _ (k + 1) (is.take k ++ [(⟨q7,q8,q9⟩ : Im)]) rfl HO4.out _ (n2 - k) (a4 - k) (is.drop k) rfl (by first | exact items_drop2 (HR.out.below HB4.out).i hkpn | exact items_drop (HR.out.below HB4.out).i hkpn) (Nat.le_of_lt HS4.out) (by omega) (by omega) ?_;intro v5 u5 O5 G5;rw [HIL.out,HN.out] at O5;have HO5:=qH O5;have HBo5:=qH (HBo4.out.grown G5 (fun e => by have:=HLW4.out _ e.symm;omega));have HBr5:=qH (HBr4.out.grown G5 (fun e => by have:=HLW4.out _ e.symm;have:=HWS.out;omega));have HT5:=qH (own_grown HT4.out G5 (fun q hq h2 => by have:=HLW4.out _ h2;have:=HTL.out _ hq;omega));have HB5:=qH (HB4.out.grown G5 HB4.out.size (fun q hq => by have:=HLW4.out _ hq;have:=HWS.out;have:=HWD.out.size;have:=HB0.out.size;omega));clear O5 G5 z5 dd0;obtain ⟨a7,c7,rfl⟩:=own_shape HO5.out;have HL5 : Hid (∀ q,(Value.slice a7 N c7).ownBlock = some q -> w2.heap.size + 1 <= q):=qH (fun q hq => (HO5.out.lt q hq).1);have o0:=HBo5.out.cell 0 _ rfl;have o1:=HBo5.out.cell 1 _ rfl;have o2:=HBo5.out.cell 2 _ rfl;have o3:=HBo5.out.cell 3 _ rfl;have o4:=HBo5.out.cell 4 _ rfl;have o5:=HBo5.out.cell 5 _ rfl;have p5:=HBo5.out.free 5;have z0:=HBr5.out.cell 0 _ rfl;have f0:=HBr5.out.free 0;have z1:=HBr5.out.cell 1 _ rfl;have f1:=HBr5.out.free 1;have z2:=HBr5.out.cell 2 _ rfl;have f2:=HBr5.out.free 2;have z3:=HBr5.out.cell 3 _ rfl;have f3:=HBr5.out.free 3;have z4:=HBr5.out.cell 4 _ rfl;have f4:=HBr5.out.free 4;have z5:=HBr5.out.cell 5 _ rfl;have f5:=HBr5.out.free 5;have z6:=HBr5.out.cell 6 _ rfl;have f6:=HBr5.out.free 6))
   all_goals
    have hY:=((((((((HBr5.out.other ⟨w2.heap.size,5,none⟩ (.slice a7 N c7) (by dsimp only;omega)).set (j:=0) (by simp) (.int .i64 c0)).set (j:=1) (by simp) (.int .i64 c1)).set (j:=2) (by simp) (.int .i64 c2)).set (j:=3) (by simp) (.int .i64 c3)).set (j:=4) (by simp) (.slice b1 n1 b3)).set (j:=5) (by simp) (.slice a7 N c7)).set (j:=6) (by simp) (.int .i64 0))
    have HYB:=qH ((((((((HB5.out.setCell (p:=⟨w2.heap.size,5,none⟩) (by dsimp only;have:=HWS.out;omega) (.slice a7 N c7)).setCell (p:=⟨w.heap.size + 1 + 1,0,none⟩) (by dsimp only;omega) (.int .i64 c0)).setCell (p:=⟨w.heap.size + 1 + 1,1,none⟩) (by dsimp only;omega) (.int .i64 c1)).setCell (p:=⟨w.heap.size + 1 + 1,2,none⟩) (by dsimp only;omega) (.int .i64 c2)).setCell (p:=⟨w.heap.size + 1 + 1,3,none⟩) (by dsimp only;omega) (.int .i64 c3)).setCell (p:=⟨w.heap.size + 1 + 1,4,none⟩) (by dsimp only;omega) (.slice b1 n1 b3)).setCell (p:=⟨w.heap.size + 1 + 1,5,none⟩) (by dsimp only;omega) (.slice a7 N c7)).setCell (p:=⟨w.heap.size + 1 + 1,6,none⟩) (by dsimp only;omega) (.int .i64 0))
    obtain ⟨Y,hYd⟩ : ∃ Y,Y = (((((((u5.setCell ⟨w2.heap.size,5,none⟩ (.slice a7 N c7)).setCell ⟨w.heap.size + 1 + 1,0,none⟩ (.int .i64 c0)).setCell ⟨w.heap.size + 1 + 1,1,none⟩ (.int .i64 c1)).setCell ⟨w.heap.size + 1 + 1,2,none⟩ (.int .i64 c2)).setCell ⟨w.heap.size + 1 + 1,3,none⟩ (.int .i64 c3)).setCell ⟨w.heap.size + 1 + 1,4,none⟩ (.slice b1 n1 b3)).setCell ⟨w.heap.size + 1 + 1,5,none⟩ (.slice a7 N c7)).setCell ⟨w.heap.size + 1 + 1,6,none⟩ (.int .i64 0):=⟨_,rfl⟩
    have HYT : Hid (Y.ownsRow w.heap.size 30 tmE.k (.slice b1 n1 b3) n1 (tmE.flat ts)):=qH (by rw [hYd];exact (own_other (own_other (own_other (own_other (own_other (own_other (own_other (own_other (own_mono HT5.out (show w.heap.size <= W.heap.size from HB0.out.size)) (b:=w2.heap.size) (fun q hq => by have:=HTL.out q hq;omega) ⟨w2.heap.size,5,none⟩ (.slice a7 N c7) rfl) (b:=w.heap.size + 1 + 1) (fun q hq => by have:=(HO2.out.t.lt q hq).1;have:=HAr.out.lt;omega) ⟨w.heap.size + 1 + 1,0,none⟩ (.int .i64 c0) rfl) (b:=w.heap.size + 1 + 1) (fun q hq => by have:=(HO2.out.t.lt q hq).1;have:=HAr.out.lt;omega) ⟨w.heap.size + 1 + 1,1,none⟩ (.int .i64 c1) rfl) (b:=w.heap.size + 1 + 1) (fun q hq => by have:=(HO2.out.t.lt q hq).1;have:=HAr.out.lt;omega) ⟨w.heap.size + 1 + 1,2,none⟩ (.int .i64 c2) rfl) (b:=w.heap.size + 1 + 1) (fun q hq => by have:=(HO2.out.t.lt q hq).1;have:=HAr.out.lt;omega) ⟨w.heap.size + 1 + 1,3,none⟩ (.int .i64 c3) rfl) (b:=w.heap.size + 1 + 1) (fun q hq => by have:=(HO2.out.t.lt q hq).1;have:=HAr.out.lt;omega) ⟨w.heap.size + 1 + 1,4,none⟩ (.slice b1 n1 b3) rfl) (b:=w.heap.size + 1 + 1) (fun q hq => by have:=(HO2.out.t.lt q hq).1;have:=HAr.out.lt;omega) ⟨w.heap.size + 1 + 1,5,none⟩ (.slice a7 N c7) rfl) (b:=w.heap.size + 1 + 1) (fun q hq => by have:=(HO2.out.t.lt q hq).1;have:=HAr.out.lt;omega) ⟨w.heap.size + 1 + 1,6,none⟩ (.int .i64 0) rfl))
    have HYI : Hid (Y.ownsRow w.heap.size 32 imE.k (.slice a7 N c7) N (imE.flat (itemsL is ⟨3,q1,q2,q3,q4,q5,q6,q7,q8,q9⟩))):=qH (by rw [hYd];exact (own_other (own_other (own_other (own_other (own_other (own_other (own_other (own_other (own_mono HO5.out (show w.heap.size <= w2.heap.size + 1 by have:=HWS.out;omega)) (b:=w2.heap.size) (fun q hq => by have:=HL5.out q hq;omega) ⟨w2.heap.size,5,none⟩ (.slice a7 N c7) rfl) (b:=w.heap.size + 1 + 1) (fun q hq => by have:=HL5.out q hq;have:=HWS.out;omega) ⟨w.heap.size + 1 + 1,0,none⟩ (.int .i64 c0) rfl) (b:=w.heap.size + 1 + 1) (fun q hq => by have:=HL5.out q hq;have:=HWS.out;omega) ⟨w.heap.size + 1 + 1,1,none⟩ (.int .i64 c1) rfl) (b:=w.heap.size + 1 + 1) (fun q hq => by have:=HL5.out q hq;have:=HWS.out;omega) ⟨w.heap.size + 1 + 1,2,none⟩ (.int .i64 c2) rfl) (b:=w.heap.size + 1 + 1) (fun q hq => by have:=HL5.out q hq;have:=HWS.out;omega) ⟨w.heap.size + 1 + 1,3,none⟩ (.int .i64 c3) rfl) (b:=w.heap.size + 1 + 1) (fun q hq => by have:=HL5.out q hq;have:=HWS.out;omega) ⟨w.heap.size + 1 + 1,4,none⟩ (.slice b1 n1 b3) rfl) (b:=w.heap.size + 1 + 1) (fun q hq => by have:=HL5.out q hq;have:=HWS.out;omega) ⟨w.heap.size + 1 + 1,5,none⟩ (.slice a7 N c7) rfl) (b:=w.heap.size + 1 + 1) (fun q hq => by have:=HL5.out q hq;have:=HWS.out;omega) ⟨w.heap.size + 1 + 1,6,none⟩ (.int .i64 0) rfl))
    rw [<- hYd] at hY HYB
    have g0:=hY.cell 0 _ rfl
    have g1:=hY.cell 1 _ rfl
    have g2:=hY.cell 2 _ rfl
    have g3:=hY.cell 3 _ rfl
    have g4:=hY.cell 4 _ rfl
    have g5:=hY.cell 5 _ rfl
    have g6:=hY.cell 6 _ rfl
    have HRR : Hid (itemsR ⟨c0,c1,c2,c3,ts,is⟩ ⟨3,q1,q2,q3,q4,q5,q6,q7,q8,q9⟩ = (⟨c0,c1,c2,c3,ts,itemsL is ⟨3,q1,q2,q3,q4,q5,q6,q7,q8,q9⟩⟩,0)):=qH (by unfold itemsR;dsimp only;rw [hl1,hl2];simp only [HHAS.out];first | (rw [if_neg (by omega),if_neg (by simp;try omega),if_neg (by simp;try omega)]) | (rw [if_neg (by simp;omega),if_neg (by simp;omega),if_neg (by simp)]) | (simp;omega))
    rw [HRR.out,<- hYd]
    exact bodyPost_ret (v:=.agg #[.int .i64 c0,.int .i64 c1,.int .i64 c2,.int .i64 c3,.slice b1 n1 b3,.slice a7 N c7,.int .i64 0]) (by simp [results,Tryz.results85,go_sem,g0,g1,g2,g3,g4,g5,g6]) rfl ⟨b1,n1,b3,a7,N,c7,rfl,⟨HYT.out,HYI.out⟩,HYB.out⟩
end Go.Proofs.YtbgoldeopmlbnaaGreatDoor
