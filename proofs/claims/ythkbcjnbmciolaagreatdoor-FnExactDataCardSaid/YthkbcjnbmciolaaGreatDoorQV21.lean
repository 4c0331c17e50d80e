/- Used by the law. -/
import Derived.WideShapes
import Derived.WideAt
import Derived.Test.YthkbcjnbmciolaaGreatDoorQV20
set_option maxRecDepth 100000
set_option maxHeartbeats 16000000
namespace Go.Proofs.YthkbcjnbmciolaaGreatDoor
open Go.RowKit Go.PlainAid G IRow
set_option linter.unusedVariables false
def atI (is : List Im) (nm : ByteArray) : Nat:=is.findIdx (fun x => !ltS x.nm nm)
theorem atI_eq {is : List Im} {nm : ByteArray} {k : Nat} (hk : k <= is.length) (ha : ∀ i,i < k -> ltS (is.getD i imD).nm nm = true) (he : k = is.length ∨ ltS (is.getD k imD).nm nm = false) : atI is nm = k:=by
 unfold atI
 rcases Nat.lt_or_ge k is.length with h | h
 · rw [List.findIdx_eq h]
   have e : is.getD k imD = is[k]:=by simp [List.getD,List.getElem?_eq_getElem h]
   refine ⟨?_,fun j hj => ?_⟩
   · rcases he with he | he
     · omega
     · rw [e] at he;rw [he];rfl
   · have h2:=ha j hj
     have e2 : is.getD j imD = is[j]:=by simp [List.getD,List.getElem?_eq_getElem (show j < is.length by omega)]
     rw [e2] at h2
     rw [h2];rfl
 · obtain rfl : k = is.length:=by omega
   rw [List.findIdx_eq_length]
   intro x hx
   obtain ⟨i,hi,rfl⟩:=List.mem_iff_getElem.1 hx
   have h2:=ha i hi
   have e2 : is.getD i imD = is[i]:=by simp [List.getD,List.getElem?_eq_getElem hi]
   rw [e2] at h2
   rw [h2];rfl
theorem atI_le (is : List Im) (nm : ByteArray) : atI is nm <= is.length:=List.findIdx_le_length
theorem l07At_any (a : Option Addr) (n cap : Nat) (is : List Im) (nm : ByteArray) (w : World) (h : ImR w a n cap is) (hn : n <= 1048576) :
 Calls Tryz.prog 147 #[.slice a n cap,.string nm] w fun e w' => e = .returned (.int .i64 (atI is nm : Nat)) /\ w = w':=by
 have hl : is.length = n:=h.len
 go_enter Tryz.func147,Tryz.ntmps147
 go_wp2_with fail
 go_loop [5] (fun i => ∃ k : Nat,k <= n /\ i = .int .i64 k /\ Hid (∀ i,i < k -> ltS (is.getD i imD).nm nm = true)) (fun i => n - (intOf i).toNat)
 case atStart => exact ⟨0,Nat.zero_le _,rfl,qH (fun i hi => absurd hi (Nat.not_lt_zero _))⟩
 case round =>
  obtain ⟨k,hk,rfl,HA⟩:=hrel
  by_cases hlt : k < n
  · obtain ⟨g,o,rfl,hg,t0,t1,t2⟩:=h.at hlt
    have hin : 0 <= (k : Int) /\ (k : Int) < (n : Int):=by omega
    cases hv : ltS (is.getD k imD).nm nm
    · have HF:=qH (atI_eq (by omega) HA.out (.inr hv))
      have hlx : Op.bytesLess (is.getD k imD).nm.toList nm.toList = false:=hv
      clear hv h
      generalize (is.getD k imD).nm = pm at *
      go_wp2_with fail
      go_ret
      exact ⟨ret_int (by rw [HF.out]),rfl⟩
    · have HA2 : Hid (∀ i,i < k + 1 -> ltS (is.getD i imD).nm nm = true):=qH (fun i hi => by
       by_cases e : i = k
       · rw [e];exact hv
       · exact HA.out i (by omega))
      have hlx : Op.bytesLess (is.getD k imD).nm.toList nm.toList = true:=hv
      clear hv h
      generalize (is.getD k imD).nm = pm at *
      go_wp2_with fail
      go_round
      case rel => exact ⟨k + 1,by omega,by go_num,HA2⟩
      case measure => simp [intOf];omega
  · obtain rfl : n = k:=by omega
    have HF:=qH (atI_eq (by omega) HA.out (.inl hl.symm))
    go_wp2_with fail
    go_ret
    exact ⟨ret_int (by rw [HF.out]),rfl⟩
theorem l07Ill_any (c : Int) (w : World) :
 Calls Tryz.prog 117 #[.int .i64 c] w fun e w' => e = .returned (.agg #[.int .i64 0,.int .i64 0,.int .i64 0,.int .i64 0,.slice none 0 0,.slice none 0 0,.int .i64 c]) /\ Below w.heap.size w w':=by
 go_enter Tryz.func117,Tryz.ntmps117
 go_wp2_with fail
 exact bodyPost_ret (v:=.agg #[.int .i64 0,.int .i64 0,.int .i64 0,.int .i64 0,.slice none 0 0,.slice none 0 0,.int .i64 c]) (by simp [results,Tryz.results117,go_sem]) rfl ⟨rfl,by repeat' (first | exact Below.refl _ _ | refine Below.alloc ?_ (by first | exact Nat.le_refl _ | (simp;done) | (simp;omega)) _ | refine Below.setCell ?_ (by first | exact Nat.le_refl _ | (simp;done) | (simp;omega)) _)⟩
def hasI (is : List Im) (nm : ByteArray) : Bool:=decide (atI is nm < is.length) && decide ((is.getD (atI is nm) imD).nm = nm)
def imOf (d : Dd) : Im:=⟨d.nm,d.tm,d.bd⟩
def itemsL (is : List Im) (d : Dd) : List Im:=is.take (atI is d.nm) ++ ((if d.kd = 3 then [imOf d] else []) ++ is.drop (if hasI is d.nm = true then atI is d.nm + 1 else atI is d.nm))
def bk0 : Bk:=⟨0,0,0,0,[],[]⟩
def itemsR (b : Bk) (d : Dd) : Bk × Int :=
 if d.kd = 3 /\ (b.ts.length : Int) < d.tm then (bk0,6)
 else if d.kd = 3 /\ hasI b.is d.nm = false /\ 8 <= b.is.length then (bk0,9)
 else if d.kd = 4 /\ hasI b.is d.nm = false then (bk0,6)
 else (⟨b.c0,b.c1,b.c2,b.c3,b.ts,itemsL b.is d⟩,0)
def NewBookOut (r : Bk × Int) (w : World) (e : Ending) (w' : World) : Prop :=
 ∃ a1 n1 a3 a2 n2 a4,e = .returned (.agg #[.int .i64 r.1.c0,.int .i64 r.1.c1,.int .i64 r.1.c2,.int .i64 r.1.c3,.slice a1 n1 a3,.slice a2 n2 a4,.int .i64 r.2]) /\ BkO w' w.heap.size a1 n1 a3 a2 n2 a4 r.1.ts r.1.is /\ Below w.heap.size w w'
theorem toList_eqb (a b : ByteArray) : (a.toList == b.toList) = decide (a = b):=by
 by_cases h : a = b
 · subst h;simp
 · rw [decide_eq_false h,beq_eq_false_iff_ne]
   exact fun h2 => h ((toList_iff a b).1 h2)
theorem l07Items_code (c0 c1 c2 c3 : Int) (ts : List Tm) (is : List Im) (q0 q1 q2 q3 q4 q5 : Int) (q6 q7 : ByteArray) (q8 : Int) (q9 : ByteArray) (a1 a2 : Option Addr) (n1 n2 a3 a4 : Nat) (w : World) (h : BkR w a1 n1 a3 a2 n2 a4 ts is) (hn1 : n1 <= 5) (hn2 : n2 <= 8) (hbad : (q0 = 3 /\ (n1 : Int) < q8) ∨ (q0 = 3 /\ ¬ (n1 : Int) < q8 /\ hasI is q7 = false /\ 8 <= n2) ∨ (q0 = 4 /\ hasI is q7 = false)) :
 Calls Tryz.prog 118 #[.agg #[.int .i64 c0,.int .i64 c1,.int .i64 c2,.int .i64 c3,.slice a1 n1 a3,.slice a2 n2 a4],.agg #[.int .i64 q0,.int .i64 q1,.int .i64 q2,.int .i64 q3,.int .i64 q4,.int .i64 q5,.string q6,.string q7,.int .i64 q8,.string q9]] w (NewBookOut (itemsR ⟨c0,c1,c2,c3,ts,is⟩ ⟨q0,q1,q2,q3,q4,q5,q6,q7,q8,q9⟩) w):=by
 have hl1 : ts.length = n1:=h.t.len
 have hl2 : is.length = n2:=h.i.len
 obtain ⟨W,hW⟩ : ∃ W,W = ((w.alloc (.cells #[.int .i64 c0,.int .i64 c1,.int .i64 c2,.int .i64 c3,.slice a1 n1 a3,.slice a2 n2 a4] 43)).alloc (.cells #[.int .i64 q0,.int .i64 q1,.int .i64 q2,.int .i64 q3,.int .i64 q4,.int .i64 q5,.string q6,.string q7,.int .i64 q8,.string q9] 145)).alloc (.cells #[.int .i64 0,.int .i64 0,.int .i64 0,.int .i64 0,.slice none 0 0,.slice none 0 0,.int .i64 0] 142):=⟨_,rfl⟩
 have HB0 : Hid (Below w.heap.size w W):=qH (by rw [hW];repeat' (first | exact Below.refl _ _ | refine Below.alloc ?_ (by first | exact Nat.le_refl _ | (simp;done) | (simp;omega)) _))
 have HAb : Hid (BoxC W w.heap.size [.int .i64 c0,.int .i64 c1,.int .i64 c2,.int .i64 c3,.slice a1 n1 a3,.slice a2 n2 a4]):=qH (by rw [hW];exact ((BoxC.made _ _ _).alloc _).alloc _)
 have HAd : Hid (BoxC W (w.heap.size + 1) [.int .i64 q0,.int .i64 q1,.int .i64 q2,.int .i64 q3,.int .i64 q4,.int .i64 q5,.string q6,.string q7,.int .i64 q8,.string q9]):=qH (by rw [hW];have:=(BoxC.made (w.alloc (.cells #[.int .i64 c0,.int .i64 c1,.int .i64 c2,.int .i64 c3,.slice a1 n1 a3,.slice a2 n2 a4] 43)) #[.int .i64 q0,.int .i64 q1,.int .i64 q2,.int .i64 q3,.int .i64 q4,.int .i64 q5,.string q6,.string q7,.int .i64 q8,.string q9] 145).alloc (.cells #[.int .i64 0,.int .i64 0,.int .i64 0,.int .i64 0,.slice none 0 0,.slice none 0 0,.int .i64 0] 142);rwa [World.size_alloc] at this)
 have HAr : Hid (BoxC W (w.heap.size + 1 + 1) [.int .i64 0,.int .i64 0,.int .i64 0,.int .i64 0,.slice none 0 0,.slice none 0 0,.int .i64 0]):=qH (by rw [hW];have:=BoxC.made ((w.alloc (.cells #[.int .i64 c0,.int .i64 c1,.int .i64 c2,.int .i64 c3,.slice a1 n1 a3,.slice a2 n2 a4] 43)).alloc (.cells #[.int .i64 q0,.int .i64 q1,.int .i64 q2,.int .i64 q3,.int .i64 q4,.int .i64 q5,.string q6,.string q7,.int .i64 q8,.string q9] 145)) #[.int .i64 0,.int .i64 0,.int .i64 0,.int .i64 0,.slice none 0 0,.slice none 0 0,.int .i64 0] 142;rwa [World.size_alloc,World.size_alloc] at this)
 have HR:=qH h
 have hat:=atI_le is q7
 obtain ⟨k,hk⟩ : ∃ k,k = atI is q7:=⟨_,rfl⟩
 have HK:=qH hk
 rw [<- hk] at hat
 clear h hk
 go_enter Tryz.func118,Tryz.ntmps118
 go_wp2_with fail
 rw [<- hW]
 clear hW
 refine (l07At_any a2 n2 a4 is q7 _ (HR.out.below HB0.out).i (by omega)).mono ?_
 rintro e w1 ⟨rfl,rfl⟩
 rw [<- HK.out]
 have x5:=HAb.out.cell 5 _ rfl
 have d7:=HAd.out.cell 7 _ rfl
 have d0:=HAd.out.cell 0 _ rfl
 have d8:=HAd.out.cell 8 _ rfl
 have x4:=HAb.out.cell 4 _ rfl
 by_cases hlt : k < n2
 · obtain ⟨g,o,ha2,hg,t0,_,_⟩:=(HR.out.below HB0.out).i.at hlt
   subst ha2
   have hin : 0 <= (k : Int) /\ (k : Int) < (n2 : Int):=by omega
   have hlk : (k : Int) < (n2 : Int):=by omega
   cases hnm : decide ((is.getD k imD).nm = q7)
   · have HHAS : Hid (hasI is q7 = false):=qH (by unfold hasI;rw [<- HK.out,hnm,Bool.and_false])
     have hne:=(toList_eqb (is.getD k imD).nm q7).trans hnm
     generalize (is.getD k imD).nm = pm at *
     go_wp2_with fail
     go_quiet (fail)
     rcases hbad with ⟨rfl,htm⟩ | ⟨rfl,htm,hh,h8⟩ | ⟨rfl,hh⟩
     · skip
       have HRR : Hid (itemsR ⟨c0,c1,c2,c3,ts,is⟩ ⟨3,q1,q2,q3,q4,q5,q6,q7,q8,q9⟩ = (bk0,6)):=qH (by unfold itemsR;rw [if_pos ⟨rfl,by dsimp only;rw [hl1];exact htm⟩])
       have HF : Hid (itemsR ⟨c0,c1,c2,c3,ts,is⟩ ⟨3,q1,q2,q3,q4,q5,q6,q7,q8,q9⟩ = (bk0,6)):=qH (HRR.out)
       go_wp2_with fail
       refine (l07Ill_any 6 _).mono ?_
       rintro e w2 ⟨rfl,hb⟩
       have hX:=BoxC.below (⟨HAr.out.lt,HAr.out.cell,HAr.out.free⟩ : BoxC (W.drewN _) (w.heap.size + 1 + 1) _) hb
       have hB:=Below.trans (show Below w.heap.size w (W.drewN _) from ⟨HB0.out.os,HB0.out.tape,HB0.out.output,HB0.out.size,HB0.out.block⟩) (hb.mono HB0.out.size)
       have e0:=hX.cell 0 _ rfl
       have f0:=hX.free 0
       have e1:=hX.cell 1 _ rfl
       have f1:=hX.free 1
       have e2:=hX.cell 2 _ rfl
       have f2:=hX.free 2
       have e3:=hX.cell 3 _ rfl
       have f3:=hX.free 3
       have e4:=hX.cell 4 _ rfl
       have f4:=hX.free 4
       have e5:=hX.cell 5 _ rfl
       have f5:=hX.free 5
       have e6:=hX.cell 6 _ rfl
       have f6:=hX.free 6
       have hY:=(((((((hX.set (j:=0) (by simp) (.int .i64 0)).set (j:=1) (by simp) (.int .i64 0)).set (j:=2) (by simp) (.int .i64 0)).set (j:=3) (by simp) (.int .i64 0)).set (j:=4) (by simp) (.slice none 0 0)).set (j:=5) (by simp) (.slice none 0 0)).set (j:=6) (by simp) (.int .i64 6))
       have HYB:=qH (((((((hB.setCell (p:=⟨w.heap.size + 1 + 1,0,none⟩) (by dsimp only;omega) (.int .i64 0)).setCell (p:=⟨w.heap.size + 1 + 1,1,none⟩) (by dsimp only;omega) (.int .i64 0)).setCell (p:=⟨w.heap.size + 1 + 1,2,none⟩) (by dsimp only;omega) (.int .i64 0)).setCell (p:=⟨w.heap.size + 1 + 1,3,none⟩) (by dsimp only;omega) (.int .i64 0)).setCell (p:=⟨w.heap.size + 1 + 1,4,none⟩) (by dsimp only;omega) (.slice none 0 0)).setCell (p:=⟨w.heap.size + 1 + 1,5,none⟩) (by dsimp only;omega) (.slice none 0 0)).setCell (p:=⟨w.heap.size + 1 + 1,6,none⟩) (by dsimp only;omega) (.int .i64 6))
       obtain ⟨Y,hYd⟩ : ∃ Y,Y = ((((((w2.setCell ⟨w.heap.size + 1 + 1,0,none⟩ (.int .i64 0)).setCell ⟨w.heap.size + 1 + 1,1,none⟩ (.int .i64 0)).setCell ⟨w.heap.size + 1 + 1,2,none⟩ (.int .i64 0)).setCell ⟨w.heap.size + 1 + 1,3,none⟩ (.int .i64 0)).setCell ⟨w.heap.size + 1 + 1,4,none⟩ (.slice none 0 0)).setCell ⟨w.heap.size + 1 + 1,5,none⟩ (.slice none 0 0)).setCell ⟨w.heap.size + 1 + 1,6,none⟩ (.int .i64 6):=⟨_,rfl⟩
       rw [<- hYd] at hY HYB
       have g0:=hY.cell 0 _ rfl
       have g1:=hY.cell 1 _ rfl
       have g2:=hY.cell 2 _ rfl
       have g3:=hY.cell 3 _ rfl
       have g4:=hY.cell 4 _ rfl
       have g5:=hY.cell 5 _ rfl
       have g6:=hY.cell 6 _ rfl
       have HG:=qH (And.intro g0 (And.intro g1 (And.intro g2 (And.intro g3 (And.intro g4 (And.intro g5 g6))))))
       clear hb hX hB hY g0 g1 g2 g3 g4 g5 g6
       go_wp2_with fail
       rw [<- hYd]
       obtain ⟨g0,g1,g2,g3,g4,g5,g6⟩:=HG.out
       clear hYd e0 f0 e1 f1 e2 f2 e3 f3 e4 f4 e5 f5 e6 f6
       rw [HF.out]
       exact bodyPost_ret (v:=.agg #[.int .i64 0,.int .i64 0,.int .i64 0,.int .i64 0,.slice none 0 0,.slice none 0 0,.int .i64 6]) (by simp [results,Tryz.results118,go_sem,g0,g1,g2,g3,g4,g5,g6]) rfl ⟨none,0,0,none,0,0,rfl,⟨World.ownsRow_nil _ _ _ _,World.ownsRow_nil _ _ _ _⟩,HYB.out⟩
     · skip
       have HRR : Hid (itemsR ⟨c0,c1,c2,c3,ts,is⟩ ⟨3,q1,q2,q3,q4,q5,q6,q7,q8,q9⟩ = (bk0,9)):=qH (by unfold itemsR;rw [if_neg (fun h => by have:=h.2;dsimp only at this;rw [hl1] at this;omega),if_pos ⟨rfl,hh,by dsimp only;omega⟩])
       have htm2 : decide ((n1 : Int) < q8) = false:=decide_eq_false (by omega)
       have hn8 : (8 : Int) <= (n2 : Int):=by omega
       have HF : Hid (itemsR ⟨c0,c1,c2,c3,ts,is⟩ ⟨3,q1,q2,q3,q4,q5,q6,q7,q8,q9⟩ = (bk0,9)):=qH (HRR.out)
       go_wp2_with fail
       refine (l07Ill_any 9 _).mono ?_
       rintro e w2 ⟨rfl,hb⟩
       have hX:=BoxC.below (⟨HAr.out.lt,HAr.out.cell,HAr.out.free⟩ : BoxC (W.drewN _) (w.heap.size + 1 + 1) _) hb
       have hB:=Below.trans (show Below w.heap.size w (W.drewN _) from ⟨HB0.out.os,HB0.out.tape,HB0.out.output,HB0.out.size,HB0.out.block⟩) (hb.mono HB0.out.size)
       have e0:=hX.cell 0 _ rfl
       have f0:=hX.free 0
       have e1:=hX.cell 1 _ rfl
       have f1:=hX.free 1
       have e2:=hX.cell 2 _ rfl
       have f2:=hX.free 2
       have e3:=hX.cell 3 _ rfl
       have f3:=hX.free 3
       have e4:=hX.cell 4 _ rfl
       have f4:=hX.free 4
       have e5:=hX.cell 5 _ rfl
       have f5:=hX.free 5
       have e6:=hX.cell 6 _ rfl
       have f6:=hX.free 6
       have hY:=(((((((hX.set (j:=0) (by simp) (.int .i64 0)).set (j:=1) (by simp) (.int .i64 0)).set (j:=2) (by simp) (.int .i64 0)).set (j:=3) (by simp) (.int .i64 0)).set (j:=4) (by simp) (.slice none 0 0)).set (j:=5) (by simp) (.slice none 0 0)).set (j:=6) (by simp) (.int .i64 9))
       have HYB:=qH (((((((hB.setCell (p:=⟨w.heap.size + 1 + 1,0,none⟩) (by dsimp only;omega) (.int .i64 0)).setCell (p:=⟨w.heap.size + 1 + 1,1,none⟩) (by dsimp only;omega) (.int .i64 0)).setCell (p:=⟨w.heap.size + 1 + 1,2,none⟩) (by dsimp only;omega) (.int .i64 0)).setCell (p:=⟨w.heap.size + 1 + 1,3,none⟩) (by dsimp only;omega) (.int .i64 0)).setCell (p:=⟨w.heap.size + 1 + 1,4,none⟩) (by dsimp only;omega) (.slice none 0 0)).setCell (p:=⟨w.heap.size + 1 + 1,5,none⟩) (by dsimp only;omega) (.slice none 0 0)).setCell (p:=⟨w.heap.size + 1 + 1,6,none⟩) (by dsimp only;omega) (.int .i64 9))
       obtain ⟨Y,hYd⟩ : ∃ Y,Y = ((((((w2.setCell ⟨w.heap.size + 1 + 1,0,none⟩ (.int .i64 0)).setCell ⟨w.heap.size + 1 + 1,1,none⟩ (.int .i64 0)).setCell ⟨w.heap.size + 1 + 1,2,none⟩ (.int .i64 0)).setCell ⟨w.heap.size + 1 + 1,3,none⟩ (.int .i64 0)).setCell ⟨w.heap.size + 1 + 1,4,none⟩ (.slice none 0 0)).setCell ⟨w.heap.size + 1 + 1,5,none⟩ (.slice none 0 0)).setCell ⟨w.heap.size + 1 + 1,6,none⟩ (.int .i64 9):=⟨_,rfl⟩
       rw [<- hYd] at hY HYB
       have g0:=hY.cell 0 _ rfl
       have g1:=hY.cell 1 _ rfl
       have g2:=hY.cell 2 _ rfl
       have g3:=hY.cell 3 _ rfl
       have g4:=hY.cell 4 _ rfl
       have g5:=hY.cell 5 _ rfl
       have g6:=hY.cell 6 _ rfl
       have HG:=qH (And.intro g0 (And.intro g1 (And.intro g2 (And.intro g3 (And.intro g4 (And.intro g5 g6))))))
       clear hb hX hB hY g0 g1 g2 g3 g4 g5 g6
       go_wp2_with fail
       rw [<- hYd]
       obtain ⟨g0,g1,g2,g3,g4,g5,g6⟩:=HG.out
       clear hYd e0 f0 e1 f1 e2 f2 e3 f3 e4 f4 e5 f5 e6 f6
       rw [HF.out]
       exact bodyPost_ret (v:=.agg #[.int .i64 0,.int .i64 0,.int .i64 0,.int .i64 0,.slice none 0 0,.slice none 0 0,.int .i64 9]) (by simp [results,Tryz.results118,go_sem,g0,g1,g2,g3,g4,g5,g6]) rfl ⟨none,0,0,none,0,0,rfl,⟨World.ownsRow_nil _ _ _ _,World.ownsRow_nil _ _ _ _⟩,HYB.out⟩
     · skip
       have HRR : Hid (itemsR ⟨c0,c1,c2,c3,ts,is⟩ ⟨4,q1,q2,q3,q4,q5,q6,q7,q8,q9⟩ = (bk0,6)):=qH (by unfold itemsR;rw [if_neg (fun h => by have:=h.1;dsimp only at this;omega),if_neg (fun h => by have:=h.1;dsimp only at this;omega),if_pos ⟨rfl,hh⟩])
       have HF : Hid (itemsR ⟨c0,c1,c2,c3,ts,is⟩ ⟨4,q1,q2,q3,q4,q5,q6,q7,q8,q9⟩ = (bk0,6)):=qH (HRR.out)
       go_wp2_with fail
       refine (l07Ill_any 6 _).mono ?_
       rintro e w2 ⟨rfl,hb⟩
       have hX:=BoxC.below (⟨HAr.out.lt,HAr.out.cell,HAr.out.free⟩ : BoxC (W.drewN _) (w.heap.size + 1 + 1) _) hb
       have hB:=Below.trans (show Below w.heap.size w (W.drewN _) from ⟨HB0.out.os,HB0.out.tape,HB0.out.output,HB0.out.size,HB0.out.block⟩) (hb.mono HB0.out.size)
       have e0:=hX.cell 0 _ rfl
       have f0:=hX.free 0
       have e1:=hX.cell 1 _ rfl
       have f1:=hX.free 1
       have e2:=hX.cell 2 _ rfl
       have f2:=hX.free 2
       have e3:=hX.cell 3 _ rfl
       have f3:=hX.free 3
       have e4:=hX.cell 4 _ rfl
       have f4:=hX.free 4
       have e5:=hX.cell 5 _ rfl
       have f5:=hX.free 5
       have e6:=hX.cell 6 _ rfl
       have f6:=hX.free 6
       have hY:=(((((((hX.set (j:=0) (by simp) (.int .i64 0)).set (j:=1) (by simp) (.int .i64 0)).set (j:=2) (by simp) (.int .i64 0)).set (j:=3) (by simp) (.int .i64 0)).set (j:=4) (by simp) (.slice none 0 0)).set (j:=5) (by simp) (.slice none 0 0)).set (j:=6) (by simp) (.int .i64 6))
       have HYB:=qH (((((((hB.setCell (p:=⟨w.heap.size + 1 + 1,0,none⟩) (by dsimp only;omega) (.int .i64 0)).setCell (p:=⟨w.heap.size + 1 + 1,1,none⟩) (by dsimp only;omega) (.int .i64 0)).setCell (p:=⟨w.heap.size + 1 + 1,2,none⟩) (by dsimp only;omega) (.int .i64 0)).setCell (p:=⟨w.heap.size + 1 + 1,3,none⟩) (by dsimp only;omega) (.int .i64 0)).setCell (p:=⟨w.heap.size + 1 + 1,4,none⟩) (by dsimp only;omega) (.slice none 0 0)).setCell (p:=⟨w.heap.size + 1 + 1,5,none⟩) (by dsimp only;omega) (.slice none 0 0)).setCell (p:=⟨w.heap.size + 1 + 1,6,none⟩) (by dsimp only;omega) (.int .i64 6))
       obtain ⟨Y,hYd⟩ : ∃ Y,Y = ((((((w2.setCell ⟨w.heap.size + 1 + 1,0,none⟩ (.int .i64 0)).setCell ⟨w.heap.size + 1 + 1,1,none⟩ (.int .i64 0)).setCell ⟨w.heap.size + 1 + 1,2,none⟩ (.int .i64 0)).setCell ⟨w.heap.size + 1 + 1,3,none⟩ (.int .i64 0)).setCell ⟨w.heap.size + 1 + 1,4,none⟩ (.slice none 0 0)).setCell ⟨w.heap.size + 1 + 1,5,none⟩ (.slice none 0 0)).setCell ⟨w.heap.size + 1 + 1,6,none⟩ (.int .i64 6):=⟨_,rfl⟩
       rw [<- hYd] at hY HYB
       have g0:=hY.cell 0 _ rfl
       have g1:=hY.cell 1 _ rfl
       have g2:=hY.cell 2 _ rfl
       have g3:=hY.cell 3 _ rfl
       have g4:=hY.cell 4 _ rfl
       have g5:=hY.cell 5 _ rfl
       have g6:=hY.cell 6 _ rfl
       have HG:=qH (And.intro g0 (And.intro g1 (And.intro g2 (And.intro g3 (And.intro g4 (And.intro g5 g6))))))
       clear hb hX hB hY g0 g1 g2 g3 g4 g5 g6
       go_wp2_with fail
       rw [<- hYd]
       obtain ⟨g0,g1,g2,g3,g4,g5,g6⟩:=HG.out
       clear hYd e0 f0 e1 f1 e2 f2 e3 f3 e4 f4 e5 f5 e6 f6
       rw [HF.out]
       exact bodyPost_ret (v:=.agg #[.int .i64 0,.int .i64 0,.int .i64 0,.int .i64 0,.slice none 0 0,.slice none 0 0,.int .i64 6]) (by simp [results,Tryz.results118,go_sem,g0,g1,g2,g3,g4,g5,g6]) rfl ⟨none,0,0,none,0,0,rfl,⟨World.ownsRow_nil _ _ _ _,World.ownsRow_nil _ _ _ _⟩,HYB.out⟩
   · have HHAS : Hid (hasI is q7 = true):=qH (by unfold hasI;rw [<- HK.out,hnm,hl2,decide_eq_true hlt];rfl)
     have hne:=(toList_eqb (is.getD k imD).nm q7).trans hnm
     generalize (is.getD k imD).nm = pm at *
     go_wp2_with fail
     go_quiet (fail)
     rcases hbad with ⟨rfl,htm⟩ | ⟨rfl,htm,hh,h8⟩ | ⟨rfl,hh⟩
     · skip
       have HRR : Hid (itemsR ⟨c0,c1,c2,c3,ts,is⟩ ⟨3,q1,q2,q3,q4,q5,q6,q7,q8,q9⟩ = (bk0,6)):=qH (by unfold itemsR;rw [if_pos ⟨rfl,by dsimp only;rw [hl1];exact htm⟩])
       have HF : Hid (itemsR ⟨c0,c1,c2,c3,ts,is⟩ ⟨3,q1,q2,q3,q4,q5,q6,q7,q8,q9⟩ = (bk0,6)):=qH (HRR.out)
       go_wp2_with fail
       refine (l07Ill_any 6 _).mono ?_
       rintro e w2 ⟨rfl,hb⟩
       have hX:=BoxC.below (⟨HAr.out.lt,HAr.out.cell,HAr.out.free⟩ : BoxC (W.drewN _) (w.heap.size + 1 + 1) _) hb
       have hB:=Below.trans (show Below w.heap.size w (W.drewN _) from ⟨HB0.out.os,HB0.out.tape,HB0.out.output,HB0.out.size,HB0.out.block⟩) (hb.mono HB0.out.size)
       have e0:=hX.cell 0 _ rfl
       have f0:=hX.free 0
       have e1:=hX.cell 1 _ rfl
       have f1:=hX.free 1
       have e2:=hX.cell 2 _ rfl
       have f2:=hX.free 2
       have e3:=hX.cell 3 _ rfl
       have f3:=hX.free 3
       have e4:=hX.cell 4 _ rfl
       have f4:=hX.free 4
       have e5:=hX.cell 5 _ rfl
       have f5:=hX.free 5
       have e6:=hX.cell 6 _ rfl
       have f6:=hX.free 6
       have hY:=(((((((hX.set (j:=0) (by simp) (.int .i64 0)).set (j:=1) (by simp) (.int .i64 0)).set (j:=2) (by simp) (.int .i64 0)).set (j:=3) (by simp) (.int .i64 0)).set (j:=4) (by simp) (.slice none 0 0)).set (j:=5) (by simp) (.slice none 0 0)).set (j:=6) (by simp) (.int .i64 6))
       have HYB:=qH (((((((hB.setCell (p:=⟨w.heap.size + 1 + 1,0,none⟩) (by dsimp only;omega) (.int .i64 0)).setCell (p:=⟨w.heap.size + 1 + 1,1,none⟩) (by dsimp only;omega) (.int .i64 0)).setCell (p:=⟨w.heap.size + 1 + 1,2,none⟩) (by dsimp only;omega) (.int .i64 0)).setCell (p:=⟨w.heap.size + 1 + 1,3,none⟩) (by dsimp only;omega) (.int .i64 0)).setCell (p:=⟨w.heap.size + 1 + 1,4,none⟩) (by dsimp only;omega) (.slice none 0 0)).setCell (p:=⟨w.heap.size + 1 + 1,5,none⟩) (by dsimp only;omega) (.slice none 0 0)).setCell (p:=⟨w.heap.size + 1 + 1,6,none⟩) (by dsimp only;omega) (.int .i64 6))
       obtain ⟨Y,hYd⟩ : ∃ Y,Y = ((((((w2.setCell ⟨w.heap.size + 1 + 1,0,none⟩ (.int .i64 0)).setCell ⟨w.heap.size + 1 + 1,1,none⟩ (.int .i64 0)).setCell ⟨w.heap.size + 1 + 1,2,none⟩ (.int .i64 0)).setCell ⟨w.heap.size + 1 + 1,3,none⟩ (.int .i64 0)).setCell ⟨w.heap.size + 1 + 1,4,none⟩ (.slice none 0 0)).setCell ⟨w.heap.size + 1 + 1,5,none⟩ (.slice none 0 0)).setCell ⟨w.heap.size + 1 + 1,6,none⟩ (.int .i64 6):=⟨_,rfl⟩
       rw [<- hYd] at hY HYB
       have g0:=hY.cell 0 _ rfl
       have g1:=hY.cell 1 _ rfl
       have g2:=hY.cell 2 _ rfl
       have g3:=hY.cell 3 _ rfl
       have g4:=hY.cell 4 _ rfl
       have g5:=hY.cell 5 _ rfl
       have g6:=hY.cell 6 _ rfl
       have HG:=qH (And.intro g0 (And.intro g1 (And.intro g2 (And.intro g3 (And.intro g4 (And.intro g5 g6))))))
       clear hb hX hB hY g0 g1 g2 g3 g4 g5 g6
       go_wp2_with fail
       rw [<- hYd]
       obtain ⟨g0,g1,g2,g3,g4,g5,g6⟩:=HG.out
       clear hYd e0 f0 e1 f1 e2 f2 e3 f3 e4 f4 e5 f5 e6 f6
       rw [HF.out]
       exact bodyPost_ret (v:=.agg #[.int .i64 0,.int .i64 0,.int .i64 0,.int .i64 0,.slice none 0 0,.slice none 0 0,.int .i64 6]) (by simp [results,Tryz.results118,go_sem,g0,g1,g2,g3,g4,g5,g6]) rfl ⟨none,0,0,none,0,0,rfl,⟨World.ownsRow_nil _ _ _ _,World.ownsRow_nil _ _ _ _⟩,HYB.out⟩
     · rw [HHAS.out] at hh;cases hh
     · rw [HHAS.out] at hh;cases hh
 · have HHAS : Hid (hasI is q7 = false):=qH (by unfold hasI;rw [<- HK.out,hl2,decide_eq_false hlt,Bool.false_and])
   have hlk : decide (k < n2) = false:=decide_eq_false hlt
   have hlk2 : decide ((k : Int) < (n2 : Int)) = false:=decide_eq_false (by omega)
   go_wp2_with fail
   go_quiet (fail)
   rcases hbad with ⟨rfl,htm⟩ | ⟨rfl,htm,hh,h8⟩ | ⟨rfl,hh⟩
   · skip
     have HRR : Hid (itemsR ⟨c0,c1,c2,c3,ts,is⟩ ⟨3,q1,q2,q3,q4,q5,q6,q7,q8,q9⟩ = (bk0,6)):=qH (by unfold itemsR;rw [if_pos ⟨rfl,by dsimp only;rw [hl1];exact htm⟩])
     have HF : Hid (itemsR ⟨c0,c1,c2,c3,ts,is⟩ ⟨3,q1,q2,q3,q4,q5,q6,q7,q8,q9⟩ = (bk0,6)):=qH (HRR.out)
     go_wp2_with fail
     refine (l07Ill_any 6 _).mono ?_
     rintro e w2 ⟨rfl,hb⟩
     have hX:=BoxC.below (⟨HAr.out.lt,HAr.out.cell,HAr.out.free⟩ : BoxC (W.drewN _) (w.heap.size + 1 + 1) _) hb
     have hB:=Below.trans (show Below w.heap.size w (W.drewN _) from ⟨HB0.out.os,HB0.out.tape,HB0.out.output,HB0.out.size,HB0.out.block⟩) (hb.mono HB0.out.size)
     have e0:=hX.cell 0 _ rfl
     have f0:=hX.free 0
     have e1:=hX.cell 1 _ rfl
     have f1:=hX.free 1
     have e2:=hX.cell 2 _ rfl
     have f2:=hX.free 2
     have e3:=hX.cell 3 _ rfl
     have f3:=hX.free 3
     have e4:=hX.cell 4 _ rfl
     have f4:=hX.free 4
     have e5:=hX.cell 5 _ rfl
     have f5:=hX.free 5
     have e6:=hX.cell 6 _ rfl
     have f6:=hX.free 6
     have hY:=(((((((hX.set (j:=0) (by simp) (.int .i64 0)).set (j:=1) (by simp) (.int .i64 0)).set (j:=2) (by simp) (.int .i64 0)).set (j:=3) (by simp) (.int .i64 0)).set (j:=4) (by simp) (.slice none 0 0)).set (j:=5) (by simp) (.slice none 0 0)).set (j:=6) (by simp) (.int .i64 6))
     have HYB:=qH (((((((hB.setCell (p:=⟨w.heap.size + 1 + 1,0,none⟩) (by dsimp only;omega) (.int .i64 0)).setCell (p:=⟨w.heap.size + 1 + 1,1,none⟩) (by dsimp only;omega) (.int .i64 0)).setCell (p:=⟨w.heap.size + 1 + 1,2,none⟩) (by dsimp only;omega) (.int .i64 0)).setCell (p:=⟨w.heap.size + 1 + 1,3,none⟩) (by dsimp only;omega) (.int .i64 0)).setCell (p:=⟨w.heap.size + 1 + 1,4,none⟩) (by dsimp only;omega) (.slice none 0 0)).setCell (p:=⟨w.heap.size + 1 + 1,5,none⟩) (by dsimp only;omega) (.slice none 0 0)).setCell (p:=⟨w.heap.size + 1 + 1,6,none⟩) (by dsimp only;omega) (.int .i64 6))
     obtain ⟨Y,hYd⟩ : ∃ Y,Y = ((((((w2.setCell ⟨w.heap.size + 1 + 1,0,none⟩ (.int .i64 0)).setCell ⟨w.heap.size + 1 + 1,1,none⟩ (.int .i64 0)).setCell ⟨w.heap.size + 1 + 1,2,none⟩ (.int .i64 0)).setCell ⟨w.heap.size + 1 + 1,3,none⟩ (.int .i64 0)).setCell ⟨w.heap.size + 1 + 1,4,none⟩ (.slice none 0 0)).setCell ⟨w.heap.size + 1 + 1,5,none⟩ (.slice none 0 0)).setCell ⟨w.heap.size + 1 + 1,6,none⟩ (.int .i64 6):=⟨_,rfl⟩
     rw [<- hYd] at hY HYB
     have g0:=hY.cell 0 _ rfl
     have g1:=hY.cell 1 _ rfl
     have g2:=hY.cell 2 _ rfl
     have g3:=hY.cell 3 _ rfl
     have g4:=hY.cell 4 _ rfl
     have g5:=hY.cell 5 _ rfl
     have g6:=hY.cell 6 _ rfl
     have HG:=qH (And.intro g0 (And.intro g1 (And.intro g2 (And.intro g3 (And.intro g4 (And.intro g5 g6))))))
     clear hb hX hB hY g0 g1 g2 g3 g4 g5 g6
     go_wp2_with fail
     rw [<- hYd]
     obtain ⟨g0,g1,g2,g3,g4,g5,g6⟩:=HG.out
     clear hYd e0 f0 e1 f1 e2 f2 e3 f3 e4 f4 e5 f5 e6 f6
     rw [HF.out]
     exact bodyPost_ret (v:=.agg #[.int .i64 0,.int .i64 0,.int .i64 0,.int .i64 0,.slice none 0 0,.slice none 0 0,.int .i64 6]) (by simp [results,Tryz.results118,go_sem,g0,g1,g2,g3,g4,g5,g6]) rfl ⟨none,0,0,none,0,0,rfl,⟨World.ownsRow_nil _ _ _ _,World.ownsRow_nil _ _ _ _⟩,HYB.out⟩
   · skip
     have HRR : Hid (itemsR ⟨c0,c1,c2,c3,ts,is⟩ ⟨3,q1,q2,q3,q4,q5,q6,q7,q8,q9⟩ = (bk0,9)):=qH (by unfold itemsR;rw [if_neg (fun h => by have:=h.2;dsimp only at this;rw [hl1] at this;omega),if_pos ⟨rfl,hh,by dsimp only;omega⟩])
     have htm2 : decide ((n1 : Int) < q8) = false:=decide_eq_false (by omega)
     have hn8 : (8 : Int) <= (n2 : Int):=by omega
     have HF : Hid (itemsR ⟨c0,c1,c2,c3,ts,is⟩ ⟨3,q1,q2,q3,q4,q5,q6,q7,q8,q9⟩ = (bk0,9)):=qH (HRR.out)
     go_wp2_with fail
     refine (l07Ill_any 9 _).mono ?_
     rintro e w2 ⟨rfl,hb⟩
     have hX:=BoxC.below (⟨HAr.out.lt,HAr.out.cell,HAr.out.free⟩ : BoxC (W.drewN _) (w.heap.size + 1 + 1) _) hb
     have hB:=Below.trans (show Below w.heap.size w (W.drewN _) from ⟨HB0.out.os,HB0.out.tape,HB0.out.output,HB0.out.size,HB0.out.block⟩) (hb.mono HB0.out.size)
     have e0:=hX.cell 0 _ rfl
     have f0:=hX.free 0
     have e1:=hX.cell 1 _ rfl
     have f1:=hX.free 1
     have e2:=hX.cell 2 _ rfl
     have f2:=hX.free 2
     have e3:=hX.cell 3 _ rfl
     have f3:=hX.free 3
     have e4:=hX.cell 4 _ rfl
     have f4:=hX.free 4
     have e5:=hX.cell 5 _ rfl
     have f5:=hX.free 5
     have e6:=hX.cell 6 _ rfl
     have f6:=hX.free 6
     have hY:=(((((((hX.set (j:=0) (by simp) (.int .i64 0)).set (j:=1) (by simp) (.int .i64 0)).set (j:=2) (by simp) (.int .i64 0)).set (j:=3) (by simp) (.int .i64 0)).set (j:=4) (by simp) (.slice none 0 0)).set (j:=5) (by simp) (.slice none 0 0)).set (j:=6) (by simp) (.int .i64 9))
     have HYB:=qH (((((((hB.setCell (p:=⟨w.heap.size + 1 + 1,0,none⟩) (by dsimp only;omega) (.int .i64 0)).setCell (p:=⟨w.heap.size + 1 + 1,1,none⟩) (by dsimp only;omega) (.int .i64 0)).setCell (p:=⟨w.heap.size + 1 + 1,2,none⟩) (by dsimp only;omega) (.int .i64 0)).setCell (p:=⟨w.heap.size + 1 + 1,3,none⟩) (by dsimp only;omega) (.int .i64 0)).setCell (p:=⟨w.heap.size + 1 + 1,4,none⟩) (by dsimp only;omega) (.slice none 0 0)).setCell (p:=⟨w.heap.size + 1 + 1,5,none⟩) (by dsimp only;omega) (.slice none 0 0)).setCell (p:=⟨w.heap.size + 1 + 1,6,none⟩) (by dsimp only;omega) (.int .i64 9))
     obtain ⟨Y,hYd⟩ : ∃ Y,Y = ((((((w2.setCell ⟨w.heap.size + 1 + 1,0,none⟩ (.int .i64 0)).setCell ⟨w.heap.size + 1 + 1,1,none⟩ (.int .i64 0)).setCell ⟨w.heap.size + 1 + 1,2,none⟩ (.int .i64 0)).setCell ⟨w.heap.size + 1 + 1,3,none⟩ (.int .i64 0)).setCell ⟨w.heap.size + 1 + 1,4,none⟩ (.slice none 0 0)).setCell ⟨w.heap.size + 1 + 1,5,none⟩ (.slice none 0 0)).setCell ⟨w.heap.size + 1 + 1,6,none⟩ (.int .i64 9):=⟨_,rfl⟩
     rw [<- hYd] at hY HYB
     have g0:=hY.cell 0 _ rfl
     have g1:=hY.cell 1 _ rfl
     have g2:=hY.cell 2 _ rfl
     have g3:=hY.cell 3 _ rfl
     have g4:=hY.cell 4 _ rfl
     have g5:=hY.cell 5 _ rfl
     have g6:=hY.cell 6 _ rfl
     have HG:=qH (And.intro g0 (And.intro g1 (And.intro g2 (And.intro g3 (And.intro g4 (And.intro g5 g6))))))
     clear hb hX hB hY g0 g1 g2 g3 g4 g5 g6
     go_wp2_with fail
     rw [<- hYd]
     obtain ⟨g0,g1,g2,g3,g4,g5,g6⟩:=HG.out
     clear hYd e0 f0 e1 f1 e2 f2 e3 f3 e4 f4 e5 f5 e6 f6
     rw [HF.out]
     exact bodyPost_ret (v:=.agg #[.int .i64 0,.int .i64 0,.int .i64 0,.int .i64 0,.slice none 0 0,.slice none 0 0,.int .i64 9]) (by simp [results,Tryz.results118,go_sem,g0,g1,g2,g3,g4,g5,g6]) rfl ⟨none,0,0,none,0,0,rfl,⟨World.ownsRow_nil _ _ _ _,World.ownsRow_nil _ _ _ _⟩,HYB.out⟩
   · skip
     have HRR : Hid (itemsR ⟨c0,c1,c2,c3,ts,is⟩ ⟨4,q1,q2,q3,q4,q5,q6,q7,q8,q9⟩ = (bk0,6)):=qH (by unfold itemsR;rw [if_neg (fun h => by have:=h.1;dsimp only at this;omega),if_neg (fun h => by have:=h.1;dsimp only at this;omega),if_pos ⟨rfl,hh⟩])
     have HF : Hid (itemsR ⟨c0,c1,c2,c3,ts,is⟩ ⟨4,q1,q2,q3,q4,q5,q6,q7,q8,q9⟩ = (bk0,6)):=qH (HRR.out)
     go_wp2_with fail
     refine (l07Ill_any 6 _).mono ?_
     rintro e w2 ⟨rfl,hb⟩
     have hX:=BoxC.below (⟨HAr.out.lt,HAr.out.cell,HAr.out.free⟩ : BoxC (W.drewN _) (w.heap.size + 1 + 1) _) hb
     have hB:=Below.trans (show Below w.heap.size w (W.drewN _) from ⟨HB0.out.os,HB0.out.tape,HB0.out.output,HB0.out.size,HB0.out.block⟩) (hb.mono HB0.out.size)
     have e0:=hX.cell 0 _ rfl
     have f0:=hX.free 0
     have e1:=hX.cell 1 _ rfl
     have f1:=hX.free 1
     have e2:=hX.cell 2 _ rfl
     have f2:=hX.free 2
     have e3:=hX.cell 3 _ rfl
     have f3:=hX.free 3
     have e4:=hX.cell 4 _ rfl
     have f4:=hX.free 4
     have e5:=hX.cell 5 _ rfl
     have f5:=hX.free 5
     have e6:=hX.cell 6 _ rfl
     have f6:=hX.free 6
     have hY:=(((((((hX.set (j:=0) (by simp) (.int .i64 0)).set (j:=1) (by simp) (.int .i64 0)).set (j:=2) (by simp) (.int .i64 0)).set (j:=3) (by simp) (.int .i64 0)).set (j:=4) (by simp) (.slice none 0 0)).set (j:=5) (by simp) (.slice none 0 0)).set (j:=6) (by simp) (.int .i64 6))
     have HYB:=qH (((((((hB.setCell (p:=⟨w.heap.size + 1 + 1,0,none⟩) (by dsimp only;omega) (.int .i64 0)).setCell (p:=⟨w.heap.size + 1 + 1,1,none⟩) (by dsimp only;omega) (.int .i64 0)).setCell (p:=⟨w.heap.size + 1 + 1,2,none⟩) (by dsimp only;omega) (.int .i64 0)).setCell (p:=⟨w.heap.size + 1 + 1,3,none⟩) (by dsimp only;omega) (.int .i64 0)).setCell (p:=⟨w.heap.size + 1 + 1,4,none⟩) (by dsimp only;omega) (.slice none 0 0)).setCell (p:=⟨w.heap.size + 1 + 1,5,none⟩) (by dsimp only;omega) (.slice none 0 0)).setCell (p:=⟨w.heap.size + 1 + 1,6,none⟩) (by dsimp only;omega) (.int .i64 6))
     obtain ⟨Y,hYd⟩ : ∃ Y,Y = ((((((w2.setCell ⟨w.heap.size + 1 + 1,0,none⟩ (.int .i64 0)).setCell ⟨w.heap.size + 1 + 1,1,none⟩ (.int .i64 0)).setCell ⟨w.heap.size + 1 + 1,2,none⟩ (.int .i64 0)).setCell ⟨w.heap.size + 1 + 1,3,none⟩ (.int .i64 0)).setCell ⟨w.heap.size + 1 + 1,4,none⟩ (.slice none 0 0)).setCell ⟨w.heap.size + 1 + 1,5,none⟩ (.slice none 0 0)).setCell ⟨w.heap.size + 1 + 1,6,none⟩ (.int .i64 6):=⟨_,rfl⟩
     rw [<- hYd] at hY HYB
     have g0:=hY.cell 0 _ rfl
     have g1:=hY.cell 1 _ rfl
     have g2:=hY.cell 2 _ rfl
     have g3:=hY.cell 3 _ rfl
     have g4:=hY.cell 4 _ rfl
     have g5:=hY.cell 5 _ rfl
     have g6:=hY.cell 6 _ rfl
     have HG:=qH (And.intro g0 (And.intro g1 (And.intro g2 (And.intro g3 (And.intro g4 (And.intro g5 g6))))))
     clear hb hX hB hY g0 g1 g2 g3 g4 g5 g6
     go_wp2_with fail
     rw [<- hYd]
     obtain ⟨g0,g1,g2,g3,g4,g5,g6⟩:=HG.out
     clear hYd e0 f0 e1 f1 e2 f2 e3 f3 e4 f4 e5 f5 e6 f6
     rw [HF.out]
     exact bodyPost_ret (v:=.agg #[.int .i64 0,.int .i64 0,.int .i64 0,.int .i64 0,.slice none 0 0,.slice none 0 0,.int .i64 6]) (by simp [results,Tryz.results118,go_sem,g0,g1,g2,g3,g4,g5,g6]) rfl ⟨none,0,0,none,0,0,rfl,⟨World.ownsRow_nil _ _ _ _,World.ownsRow_nil _ _ _ _⟩,HYB.out⟩
end Go.Proofs.YthkbcjnbmciolaaGreatDoor
namespace Go.Proofs.YthkbcjnbmciolaaGreatDoor
open Go.RowKit Go.PlainAid G
set_option linter.unusedVariables false
theorem less_before : ∀ x y : List UInt8,Op.bytesLess x y = bytesBefore x y
 | [],[] => rfl
 | [],_ :: _ => rfl
 | _ :: _,[] => rfl
 | a :: r,b :: s => by simp only [Op.bytesLess,bytesBefore,less_before r s]
theorem ltS_bytes (a b : ByteArray) : ltS a b = bytesBefore a.data.toList b.data.toList:=by
 unfold ltS
 rw [less_before,Lib.toList_data,Lib.toList_data]
theorem ba_inj {a b : ByteArray} (h : a.data.toList = b.data.toList) : a = b:=ByteArray.ext (Array.toList_inj.1 h)
theorem ltS_tr {a b c : ByteArray} (h1 : ltS a b = true) (h2 : ltS b c = true) : ltS a c = true:=by
 rw [ltS_bytes] at *
 exact WideShapes.bytes_trans _ _ _ h1 h2
theorem ltS_ir (a : ByteArray) : ltS a a = false:=by rw [ltS_bytes];exact WideAt.bytes_irrefl _
theorem ltS_tot {a b : ByteArray} (h : a ≠ b) : ltS a b = true ∨ ltS b a = true:=by
 rw [ltS_bytes,ltS_bytes]
 exact WideAt.bytes_total _ _ (fun e => h (ba_inj e))
theorem ltS_ne {a b : ByteArray} (h : ltS a b = true) : a ≠ b:=fun e => by subst e;rw [ltS_ir] at h;cases h
theorem ltS_asym {a b : ByteArray} (h : ltS a b = true) : ltS b a = false:=by
 cases h2 : ltS b a
 · rfl
 · have:=ltS_tr h h2
   rw [ltS_ir] at this
   cases this
end Go.Proofs.YthkbcjnbmciolaaGreatDoor
