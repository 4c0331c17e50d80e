/- Used by the law. -/
import Derived.Test.YtbgoldeopmlbnaaGreatDoorQB10
import Derived.Test.YtbgoldeopmlbnaaGreatDoorQB11
set_option maxRecDepth 100000
set_option maxHeartbeats 16000000
namespace Go.Proofs.YtbgoldeopmlbnaaGreatDoor
open Go.RowKit Go.PlainAid G
set_option linter.unusedVariables false
def tAt (ts : List Tm) (i : Nat) : Bool:=termB (ts.getD i tmD).no (ts.getD i tmD).lk && decide ((ts.getD i tmD).no = (i : Int) + 1)
def iAt (n : Nat) (is : List Im) (i : Nat) : Bool:=itemB (is.getD i imD).nm (is.getD i imD).tm (is.getD i imD).bd && decide ((is.getD i imD).tm <= (n : Int)) && (decide (i = 0) || ltS (is.getD (i - 1) imD).nm (is.getD i imD).nm)
def allTo' (f : Nat -> Bool) (k : Nat) : Bool:=(List.range k).all f
theorem allTo'_succ {f : Nat -> Bool} {k : Nat} (h : allTo' f k = true) (h1 : f k = true) : allTo' f (k + 1) = true:=by
 unfold allTo' at h ⊢
 rw [List.range_succ,List.all_append,h]
 simp [h1]
theorem allTo'_no {f : Nat -> Bool} {k n : Nat} (hk : k < n) (h : f k = false) : allTo' f n = false:=by
 unfold allTo'
 rw [List.all_eq_false]
 exact ⟨k,List.mem_range.2 hk,by rw [h];decide⟩
theorem allTo'_iff {f : Nat -> Bool} {n : Nat} : allTo' f n = true ↔ ∀ i,i < n -> f i = true:=by
 unfold allTo'
 rw [List.all_eq_true]
 exact ⟨fun h i hi => h i (List.mem_range.2 hi),fun h i hi => h i (List.mem_range.1 hi)⟩
theorem geq_str (a b : ByteArray) (W : World) : (binOp .geq 9 (.string a) (.string b)).run Tryz.prog W = .ok (.bool (!(ltS a b))) W:=by
 simp only [binOp]
 rfl
def bookB (b : Bk) : Bool:=zeroB b.c0 b.c1 b.c2 b.c3 b.ts.length b.is.length || (confB b.c0 b.c1 b.c2 b.c3 && decide (1 <= b.ts.length /\ b.ts.length <= 5) && decide (b.is.length <= 8) && allTo' (tAt b.ts) b.ts.length && allTo' (iAt b.ts.length b.is) b.is.length)
theorem specBookRight_any (b : Bk) (a1 a2 : Option Addr) (n1 n2 a3 a4 : Nat) (w : World) (h : BkR w a1 n1 a3 a2 n2 a4 b.ts b.is) (hn1 : n1 <= 1048576) (hn2 : n2 <= 1048576) (hs1 : ∀ t,t < n1 -> (b.ts.getD t tmD).lk.size <= maxLen) (hs2 : ∀ t,t < n2 -> (b.is.getD t imD).nm.size <= maxLen /\ (b.is.getD t imD).bd.size <= maxLen) :
 Calls Tryz.prog 18 #[.agg #[.int .i64 b.c0,.int .i64 b.c1,.int .i64 b.c2,.int .i64 b.c3,.slice a1 n1 a3,.slice a2 n2 a4]] w fun e w' => e = .returned (.bool (bookB b)) /\ Below w.heap.size w w':=by
 obtain ⟨c0,c1,c2,c3,ts,is⟩:=b
 dsimp only at h hs1 hs2 ⊢
 have hl1 : ts.length = n1:=h.t.len
 have hl2 : is.length = n2:=h.i.len
 have HS1:=qH hs1
 have HS2:=qH hs2
 have HD : Hid (bookB ⟨c0,c1,c2,c3,ts,is⟩ = (zeroB c0 c1 c2 c3 n1 n2 || (confB c0 c1 c2 c3 && decide (1 <= n1 /\ n1 <= 5) && decide (n2 <= 8) && allTo' (tAt ts) n1 && allTo' (iAt n1 is) n2))):=qH (by unfold bookB;dsimp only;rw [hl1,hl2])
 generalize bookB ⟨c0,c1,c2,c3,ts,is⟩ = R at *
 obtain ⟨W,hW⟩ : ∃ W,W = w.alloc (.cells #[.int .i64 c0,.int .i64 c1,.int .i64 c2,.int .i64 c3,.slice a1 n1 a3,.slice a2 n2 a4] 28):=⟨_,rfl⟩
 have hb0 : Below w.heap.size w W:=by rw [hW];exact (Below.refl _ _).alloc (Nat.le_refl _) _
 have hA : BoxC W (w.heap.size) [.int .i64 c0,.int .i64 c1,.int .i64 c2,.int .i64 c3,.slice a1 n1 a3,.slice a2 n2 a4]:=by rw [hW];exact BoxC.made _ _ _
 clear hs1 hs2 hl1 hl2
 have HR:=qH h
 clear h
 have hmx : Tryz.prog.follows .mixedOrders = true:=by kernel_rfl
 cases hz : zeroB c0 c1 c2 c3 n1 n2
 · cases hc : confB c0 c1 c2 c3
   · have HF : Hid (false = R):=qH (by rw [HD.out,hz,hc];simp)
     clear HD
     go_enter Tryz.func18,Tryz.ntmps18
     go_wp2_with fail
     rw [<- hW]
     clear hW
     refine (l07Zero_any c0 c1 c2 c3 a1 a2 n1 n2 a3 a4 _).mono ?_
     rintro e w1 ⟨rfl,hb⟩
     rw [hz]
     have hA1:=hA.below hb
     have HB1:=qH (hb0.trans (hb.mono hb0.size))
     have x0:=hA1.cell 0 _ rfl
     have x1:=hA1.cell 1 _ rfl
     have x2:=hA1.cell 2 _ rfl
     have x3:=hA1.cell 3 _ rfl
     have x4:=hA1.cell 4 _ rfl
     clear hb hA hb0 hA1
     go_wp2_with fail
     refine (l07Conf_any c0 c1 c2 c3 _).mono ?_
     rintro e w2 ⟨rfl,hb⟩
     rw [hc]
     have HB2:=qH (HB1.out.trans (hb.mono HB1.out.size))
     clear hb x0 x1 x2 x3 x4
     go_wp2_with fail
     go_ret
     exact ⟨ret_bool HF.out,HB2.out⟩
   · by_cases hn : 1 <= n1
     · by_cases hn5 : n1 <= 5
       · by_cases h8 : n2 <= 8
         · go_enter Tryz.func18,Tryz.ntmps18
           go_wp2_with fail
           rw [<- hW]
           clear hW
           refine (l07Zero_any c0 c1 c2 c3 a1 a2 n1 n2 a3 a4 _).mono ?_
           rintro e w1 ⟨rfl,hb⟩
           rw [hz]
           have hA1:=hA.below hb
           have HB1:=qH (hb0.trans (hb.mono hb0.size))
           have x0:=hA1.cell 0 _ rfl
           have x1:=hA1.cell 1 _ rfl
           have x2:=hA1.cell 2 _ rfl
           have x3:=hA1.cell 3 _ rfl
           have x4:=hA1.cell 4 _ rfl
           have HA1:=qH hA1
           clear hb hA hb0 hA1
           go_wp2_with fail
           refine (l07Conf_any c0 c1 c2 c3 _).mono ?_
           rintro e w2 ⟨rfl,hb⟩
           rw [hc]
           have HB2:=qH (HB1.out.trans (hb.mono HB1.out.size))
           have hA2:=HA1.out.below hb
           have HA2:=qH hA2
           have x5:=hA2.cell 5 _ rfl
           clear hb x0 x1 x2 x3 x4 hA2
           go_wp2_with fail
           clear x5
           have HREL : Hid (BoxC w2 w.heap.size [.int .i64 c0,.int .i64 c1,.int .i64 c2,.int .i64 c3,.slice a1 n1 a3,.slice a2 n2 a4] /\ Below w.heap.size w w2):=qH ⟨HA2.out,HB2.out⟩
           clear HA1 HB1 HA2 HB2
           go_loopw [4] (fun i wr => ∃ k : Nat,k <= n1 /\ i = .int .i64 k /\ Hid (allTo' (tAt ts) k = true) /\ Hid (BoxC wr w.heap.size [.int .i64 c0,.int .i64 c1,.int .i64 c2,.int .i64 c3,.slice a1 n1 a3,.slice a2 n2 a4] /\ Below w.heap.size w wr)) (fun i _ => n1 - (intOf i).toNat)
           case atStart => exact ⟨0,Nat.zero_le _,rfl,qH rfl,HREL⟩
           case round =>
            obtain ⟨k,hk,rfl,HT,HB⟩:=hrel
            clear HREL
            have x4:=HB.out.1.cell 4 _ rfl
            by_cases hlt : k < n1
            · have hRt:=(HR.out.below HB.out.2).t
              obtain ⟨g,o,rfl,hg,t0,t1⟩:=hRt.at hlt
              have hin : 0 <= (k : Int) /\ (k : Int) < (n1 : Int):=by omega
              have hsz:=HS1.out k hlt
              have HTA : Hid (tAt ts k = (termB (ts.getD k tmD).no (ts.getD k tmD).lk && decide ((ts.getD k tmD).no = (k : Int) + 1))):=qH rfl
              generalize (ts.getD k tmD).no = no at *
              generalize (ts.getD k tmD).lk = lk at *
              have T0:=qH t0
              have hk1 : IntKind.i64.wrap ((k : Int) + 1) = (k : Int) + 1:=IntWalk.i64_in _ (by omega)
              clear hRt
              go_wp2_with fail
              refine (l07Term_any no lk _ hsz).mono ?_
              rintro e w5 ⟨rfl,hb⟩
              have HB5:=qH (And.intro (HB.out.1.below hb) (HB.out.2.trans (hb.mono HB.out.2.size)))
              have y4:=HB5.out.1.cell 4 _ rfl
              have y0:=(hb.cell (p:=⟨g,o + k * 2,none⟩) hg).trans T0.out
              clear hb x4 t0 t1 T0
              cases hv : termB no lk
              · have HF : Hid (false = R):=qH (by rw [HD.out,allTo'_no hlt (by rw [HTA.out,hv];rfl)];simp [hz])
                clear HD
                go_wp2_with fail
                go_ret
                exact ⟨ret_bool HF.out,HB5.out.2⟩
              · by_cases hno : no = (k : Int) + 1
                · have HT2 : Hid (allTo' (tAt ts) (k + 1) = true):=qH (allTo'_succ HT.out (by rw [HTA.out,hv,decide_eq_true hno];rfl))
                  have hno2 : (no != (k : Int) + 1) = false:=by rw [hno];simp
                  go_wp2_with fail
                  go_roundw
                  case rel => exact ⟨k + 1,by omega,by go_num,HT2,HB5⟩
                  case measure => simp [intOf];omega
                · have HF : Hid (false = R):=qH (by rw [HD.out,allTo'_no hlt (by rw [HTA.out,hv,decide_eq_false hno];rfl)];simp [hz])
                  have hno2 : (no != (k : Int) + 1) = true:=by simpa using hno
                  clear HD
                  go_wp2_with fail
                  go_ret
                  exact ⟨ret_bool HF.out,HB5.out.2⟩
            · obtain rfl : n1 = k:=by omega
              have x5:=HB.out.1.cell 5 _ rfl
              clear x4
              have HREL:=HB
              go_wp2_with fail
              clear x5 hlt
              go_loopw [5] (fun i wr => ∃ k : Nat,k <= n2 /\ i = .int .i64 k /\ Hid (allTo' (iAt n1 is) k = true) /\ Hid (BoxC wr w.heap.size [.int .i64 c0,.int .i64 c1,.int .i64 c2,.int .i64 c3,.slice a1 n1 a3,.slice a2 n2 a4] /\ Below w.heap.size w wr)) (fun i _ => n2 - (intOf i).toNat)
              case atStart => exact ⟨0,Nat.zero_le _,rfl,qH rfl,HREL⟩
              case round =>
               clear HREL HB
               obtain ⟨k,hk,rfl,HI,HB⟩:=hrel
               have x5:=HB.out.1.cell 5 _ rfl
               by_cases hlt : k < n2
               · have hRi:=(HR.out.below HB.out.2).i
                 obtain ⟨g,o,rfl,hg,t0,t1,t2⟩:=hRi.at hlt
                 have hin : 0 <= (k : Int) /\ (k : Int) < (n2 : Int):=by omega
                 have hsz:=HS2.out k hlt
                 have HIA : Hid (iAt n1 is k = (itemB (is.getD k imD).nm (is.getD k imD).tm (is.getD k imD).bd && decide ((is.getD k imD).tm <= (n1 : Int)) && (decide (k = 0) || ltS (is.getD (k - 1) imD).nm (is.getD k imD).nm))):=qH rfl
                 have HP : Hid (0 < k -> ∀ u : World,Below w.heap.size w u -> u.cell? ⟨g,o + (k - 1) * 3,none⟩ = some (.string (is.getD (k - 1) imD).nm)):=qH (fun h0 u hu => by
                  obtain ⟨g',o',hge,_,p0,_⟩:=(HR.out.below hu).i.at (show k - 1 < n2 by omega)
                  simp only [Option.some.injEq,Addr.mk.injEq,and_true] at hge
                  obtain ⟨rfl,rfl⟩:=hge
                  exact p0)
                 have HQ : Hid (∀ u : World,Below w.heap.size w u -> u.cell? ⟨g,o + k * 3,none⟩ = some (.string (is.getD k imD).nm) /\ u.cell? ⟨g,o + k * 3 + 1,none⟩ = some (.int .i64 (is.getD k imD).tm) /\ u.cell? ⟨g,o + k * 3 + 2,none⟩ = some (.string (is.getD k imD).bd)):=qH (fun u hu => by
                  obtain ⟨g',o',hge,_,p0,p1,p2⟩:=(HR.out.below hu).i.at hlt
                  simp only [Option.some.injEq,Addr.mk.injEq,and_true] at hge
                  obtain ⟨rfl,rfl⟩:=hge
                  exact ⟨p0,p1,p2⟩)
                 generalize (is.getD (k - 1) imD).nm = pm at *
                 generalize (is.getD k imD).nm = nm at *
                 generalize (is.getD k imD).tm = tm at *
                 generalize (is.getD k imD).bd = bd at *
                 have hFn:=HB.out
                 have HC : Hid (∀ u : World,(BoxC u w.heap.size [.int .i64 c0,.int .i64 c1,.int .i64 c2,.int .i64 c3,.slice a1 n1 a3,.slice (some ⟨g,o,none⟩) n2 a4] /\ Below w.heap.size w u) -> u.cell? ⟨w.heap.size,5,none⟩ = some (.slice (some ⟨g,o,none⟩) n2 a4) /\ u.cell? ⟨g,o + k * 3,none⟩ = some (.string nm) /\ u.cell? ⟨g,o + k * 3 + 1,none⟩ = some (.int .i64 tm) /\ u.cell? ⟨g,o + k * 3 + 2,none⟩ = some (.string bd)):=qH (fun u hu => ⟨hu.1.cell 5 _ rfl,HQ.out u hu.2⟩)
                 clear hRi HQ HB
                 cases hv : itemB nm tm bd
                 · skip
                   have HF : Hid (false = R):=qH (by rw [HD.out,allTo'_no hlt (by rw [HIA.out,hv];rfl)];simp [hz])
                   clear HD HP
                   go_wp2_with fail
                   refine TillZ.region (t:=3) hmx (fun _ => True) ?_
                   refine TillZ.take4 (i:=2) (v:=.int .i64 (k : Int)) rfl rfl rfl (by kernel_rfl) trivial (fun u _ => by go_simp) ?_
                   simp only [pS,List.set,zT,zZ,zU]
                   refine TillZ.value (i:=0) (v:=.pointer (some ⟨w.heap.size,5,none⟩)) (by kernel_rfl) rfl rfl rfl (by go_simp) trivial ?_
                   simp only [pS,List.set,zT,zZ]
                   refine TillZ.value (i:=1) (v:=.slice (some ⟨g,o,none⟩) n2 a4) (by kernel_rfl) rfl rfl rfl (by go_simp) trivial ?_
                   simp only [pS,List.set,zT,zZ,zU]
                   refine TillZ.hand (v:=.pointer (some ⟨g,o + k * 3,none⟩)) (by kernel_rfl) rfl rfl (by go_simp) ?_
                   simp only [pS,List.set,zT,zZ,zU]
                   refine TillZ.any_value (i:=4) (v:=.agg #[.string nm,.int .i64 tm,.string bd]) (by kernel_rfl) rfl rfl (by go_simp) ?_
                   simp only [pS,List.set,zT,zZ,zU]
                   refine TillZ.any_call (i:=5) (f:=55) (args:=#[.agg #[.string nm,.int .i64 tm,.string bd]]) (by kernel_rfl) rfl rfl (by go_simp) ?_
                   refine Calls.mono (l07Item_any nm tm bd _ hsz.1 hsz.2) ?_
                   rintro e w5 ⟨rfl,hb⟩
                   rw [hv]
                   refine ⟨_,rfl,?_⟩
                   simp only [pS,List.set,zT,zZ,zU]
                   have hG:=And.intro (hFn.1.drew.below hb) (hFn.2.drew.trans (hb.mono hFn.2.size))
                   clear x5 t0 t1 t2 hFn hb
                   obtain ⟨y5,y0,y1,y2⟩:=HC.out _ hG
                   refine TillZ.any_value (i:=6) (v:=.bool true) (by kernel_rfl) rfl rfl (by go_simp) ?_
                   simp only [pS,List.set,zT,zZ,zU]
                   refine TillZ.any_value (i:=7) (v:=.bool true) (by kernel_rfl) rfl rfl (by go_simp) ?_
                   simp only [pS,List.set,zT,zZ,zU]
                   refine TillZ.still (m:=8) rfl (by kernel_rfl) (by kernel_rfl) ?_
                   dsimp only [List.drop]
                   iterate 8 (with_reducible refine TillZ.no (by kernel_rfl) ?_;simp only [pS,List.set])
                   iterate 2 (with_reducible refine TillZ.step (by kernel_rfl) (fun K hK => ?_);go_simp;refine hK _ ?_;clear hK K)
                   iterate 18 (with_reducible refine TillZ.no (by kernel_rfl) ?_;simp only [pS,List.set])
                   iterate 1 (with_reducible refine TillZ.step (by kernel_rfl) (fun K hK => ?_);go_simp;refine hK _ ?_;clear hK K)
                   with_reducible refine wpStill_nil ?_
                   go_wp2_with fail
                   go_ret
                   exact ⟨ret_bool HF.out,hG.2⟩
                 · by_cases htm : tm <= (n1 : Int)
                   · have htm3 : decide ((n1 : Int) < tm) = false:=decide_eq_false (by omega)
                     by_cases h0 : k = 0
                     · skip
                       have HI2 : Hid (allTo' (iAt n1 is) (k + 1) = true):=qH (allTo'_succ HI.out (by rw [HIA.out,hv,decide_eq_true htm,decide_eq_true h0];rfl))
                       have hk0 : decide (0 < k) = false:=decide_eq_false (by omega)
                       clear HP h0
                       go_wp2_with fail
                       refine TillZ.region (t:=3) hmx (fun _ => True) ?_
                       refine TillZ.take4 (i:=2) (v:=.int .i64 (k : Int)) rfl rfl rfl (by kernel_rfl) trivial (fun u _ => by go_simp) ?_
                       simp only [pS,List.set,zT,zZ,zU]
                       refine TillZ.value (i:=0) (v:=.pointer (some ⟨w.heap.size,5,none⟩)) (by kernel_rfl) rfl rfl rfl (by go_simp) trivial ?_
                       simp only [pS,List.set,zT,zZ]
                       refine TillZ.value (i:=1) (v:=.slice (some ⟨g,o,none⟩) n2 a4) (by kernel_rfl) rfl rfl rfl (by go_simp) trivial ?_
                       simp only [pS,List.set,zT,zZ,zU]
                       refine TillZ.hand (v:=.pointer (some ⟨g,o + k * 3,none⟩)) (by kernel_rfl) rfl rfl (by go_simp) ?_
                       simp only [pS,List.set,zT,zZ,zU]
                       refine TillZ.any_value (i:=4) (v:=.agg #[.string nm,.int .i64 tm,.string bd]) (by kernel_rfl) rfl rfl (by go_simp) ?_
                       simp only [pS,List.set,zT,zZ,zU]
                       refine TillZ.any_call (i:=5) (f:=55) (args:=#[.agg #[.string nm,.int .i64 tm,.string bd]]) (by kernel_rfl) rfl rfl (by go_simp) ?_
                       refine Calls.mono (l07Item_any nm tm bd _ hsz.1 hsz.2) ?_
                       rintro e w5 ⟨rfl,hb⟩
                       rw [hv]
                       refine ⟨_,rfl,?_⟩
                       simp only [pS,List.set,zT,zZ,zU]
                       have hG:=And.intro (hFn.1.drew.below hb) (hFn.2.drew.trans (hb.mono hFn.2.size))
                       clear x5 t0 t1 t2 hFn hb
                       obtain ⟨y5,y0,y1,y2⟩:=HC.out _ hG
                       refine TillZ.any_value (i:=6) (v:=.bool false) (by kernel_rfl) rfl rfl (by go_simp) ?_
                       simp only [pS,List.set,zT,zZ,zU]
                       refine TillZ.any_value (i:=7) (v:=.bool false) (by kernel_rfl) rfl rfl (by go_simp) ?_
                       simp only [pS,List.set,zT,zZ,zU]
                       refine TillZ.still (m:=8) rfl (by kernel_rfl) (by kernel_rfl) ?_
                       dsimp only [List.drop]
                       iterate 13 (with_reducible refine TillZ.step (by kernel_rfl) (fun K hK => ?_);go_simp;refine hK _ ?_;clear hK K)
                       iterate 14 (with_reducible refine TillZ.no (by kernel_rfl) ?_;simp only [pS,List.set])
                       iterate 2 (with_reducible refine TillZ.step (by kernel_rfl) (fun K hK => ?_);go_simp;refine hK _ ?_;clear hK K)
                       with_reducible refine wpStill_nil ?_
                       go_wp2_with fail
                       go_roundw
                       case rel => exact ⟨k + 1,by omega,by go_num,HI2,qH hG⟩
                       case measure => simp [intOf];omega
                     · have HP2:=qH (fun (u : World) (hu : BoxC u w.heap.size [.int .i64 c0,.int .i64 c1,.int .i64 c2,.int .i64 c3,.slice a1 n1 a3,.slice (some ⟨g,o,none⟩) n2 a4] /\ Below w.heap.size w u) => HP.out (by omega) u hu.2)
                       have hk1 : IntKind.i64.wrap ((k : Int) - 1) = ((k - 1 : Nat) : Int):=by rw [IntWalk.i64_in _ (by omega)];omega
                       have hin2 : 0 <= ((k - 1 : Nat) : Int) /\ ((k - 1 : Nat) : Int) < (n2 : Int):=by omega
                       have hk0 : decide (0 < k) = true:=decide_eq_true (by omega)
                       have hge:=geq_str pm nm
                       obtain ⟨km,hkm⟩ : ∃ km,km = k - 1:=⟨_,rfl⟩
                       rw [<- hkm] at HP2 hk1 hin2
                       clear HP hkm
                       cases hl : ltS pm nm
                       · skip
                         have HF : Hid (false = R):=qH (by rw [HD.out,allTo'_no hlt (by rw [HIA.out,hl,decide_eq_false h0,Bool.or_self,Bool.and_false])];simp [hz])
                         rw [hl] at hge
                         clear HD
                         go_wp2_with fail
                         refine TillZ.region (t:=3) hmx (fun _ => True) ?_
                         refine TillZ.take4 (i:=2) (v:=.int .i64 (k : Int)) rfl rfl rfl (by kernel_rfl) trivial (fun u _ => by go_simp) ?_
                         simp only [pS,List.set,zT,zZ,zU]
                         refine TillZ.value (i:=0) (v:=.pointer (some ⟨w.heap.size,5,none⟩)) (by kernel_rfl) rfl rfl rfl (by go_simp) trivial ?_
                         simp only [pS,List.set,zT,zZ]
                         refine TillZ.value (i:=1) (v:=.slice (some ⟨g,o,none⟩) n2 a4) (by kernel_rfl) rfl rfl rfl (by go_simp) trivial ?_
                         simp only [pS,List.set,zT,zZ,zU]
                         refine TillZ.hand (v:=.pointer (some ⟨g,o + k * 3,none⟩)) (by kernel_rfl) rfl rfl (by go_simp) ?_
                         simp only [pS,List.set,zT,zZ,zU]
                         refine TillZ.any_value (i:=4) (v:=.agg #[.string nm,.int .i64 tm,.string bd]) (by kernel_rfl) rfl rfl (by go_simp) ?_
                         simp only [pS,List.set,zT,zZ,zU]
                         refine TillZ.any_call (i:=5) (f:=55) (args:=#[.agg #[.string nm,.int .i64 tm,.string bd]]) (by kernel_rfl) rfl rfl (by go_simp) ?_
                         refine Calls.mono (l07Item_any nm tm bd _ hsz.1 hsz.2) ?_
                         rintro e w5 ⟨rfl,hb⟩
                         rw [hv]
                         refine ⟨_,rfl,?_⟩
                         simp only [pS,List.set,zT,zZ,zU]
                         have hG:=And.intro (hFn.1.drew.below hb) (hFn.2.drew.trans (hb.mono hFn.2.size))
                         clear x5 t0 t1 t2 hFn hb
                         obtain ⟨y5,y0,y1,y2⟩:=HC.out _ hG
                         have z0:=HP2.out _ hG
                         refine TillZ.any_value (i:=6) (v:=.bool false) (by kernel_rfl) rfl rfl (by go_simp) ?_
                         simp only [pS,List.set,zT,zZ,zU]
                         refine TillZ.any_value (i:=7) (v:=.bool false) (by kernel_rfl) rfl rfl (by go_simp) ?_
                         simp only [pS,List.set,zT,zZ,zU]
                         refine TillZ.still (m:=8) rfl (by kernel_rfl) (by kernel_rfl) ?_
                         dsimp only [List.drop]
                         iterate 29 (with_reducible refine TillZ.step (by kernel_rfl) (fun K hK => ?_);go_simp;refine hK _ ?_;clear hK K)
                         with_reducible refine wpStill_nil ?_
                         go_wp2_with fail
                         go_ret
                         exact ⟨ret_bool HF.out,hG.2⟩
                       · skip
                         have HI2 : Hid (allTo' (iAt n1 is) (k + 1) = true):=qH (allTo'_succ HI.out (by rw [HIA.out,hv,decide_eq_true htm,hl,Bool.or_true];rfl))
                         rw [hl] at hge
                         go_wp2_with fail
                         refine TillZ.region (t:=3) hmx (fun _ => True) ?_
                         refine TillZ.take4 (i:=2) (v:=.int .i64 (k : Int)) rfl rfl rfl (by kernel_rfl) trivial (fun u _ => by go_simp) ?_
                         simp only [pS,List.set,zT,zZ,zU]
                         refine TillZ.value (i:=0) (v:=.pointer (some ⟨w.heap.size,5,none⟩)) (by kernel_rfl) rfl rfl rfl (by go_simp) trivial ?_
                         simp only [pS,List.set,zT,zZ]
                         refine TillZ.value (i:=1) (v:=.slice (some ⟨g,o,none⟩) n2 a4) (by kernel_rfl) rfl rfl rfl (by go_simp) trivial ?_
                         simp only [pS,List.set,zT,zZ,zU]
                         refine TillZ.hand (v:=.pointer (some ⟨g,o + k * 3,none⟩)) (by kernel_rfl) rfl rfl (by go_simp) ?_
                         simp only [pS,List.set,zT,zZ,zU]
                         refine TillZ.any_value (i:=4) (v:=.agg #[.string nm,.int .i64 tm,.string bd]) (by kernel_rfl) rfl rfl (by go_simp) ?_
                         simp only [pS,List.set,zT,zZ,zU]
                         refine TillZ.any_call (i:=5) (f:=55) (args:=#[.agg #[.string nm,.int .i64 tm,.string bd]]) (by kernel_rfl) rfl rfl (by go_simp) ?_
                         refine Calls.mono (l07Item_any nm tm bd _ hsz.1 hsz.2) ?_
                         rintro e w5 ⟨rfl,hb⟩
                         rw [hv]
                         refine ⟨_,rfl,?_⟩
                         simp only [pS,List.set,zT,zZ,zU]
                         have hG:=And.intro (hFn.1.drew.below hb) (hFn.2.drew.trans (hb.mono hFn.2.size))
                         clear x5 t0 t1 t2 hFn hb
                         obtain ⟨y5,y0,y1,y2⟩:=HC.out _ hG
                         have z0:=HP2.out _ hG
                         refine TillZ.any_value (i:=6) (v:=.bool false) (by kernel_rfl) rfl rfl (by go_simp) ?_
                         simp only [pS,List.set,zT,zZ,zU]
                         refine TillZ.any_value (i:=7) (v:=.bool false) (by kernel_rfl) rfl rfl (by go_simp) ?_
                         simp only [pS,List.set,zT,zZ,zU]
                         refine TillZ.still (m:=8) rfl (by kernel_rfl) (by kernel_rfl) ?_
                         dsimp only [List.drop]
                         iterate 29 (with_reducible refine TillZ.step (by kernel_rfl) (fun K hK => ?_);go_simp;refine hK _ ?_;clear hK K)
                         with_reducible refine wpStill_nil ?_
                         go_wp2_with fail
                         go_roundw
                         case rel => exact ⟨k + 1,by omega,by go_num,HI2,qH hG⟩
                         case measure => simp [intOf];omega
                   · skip
                     have HF : Hid (false = R):=qH (by rw [HD.out,allTo'_no hlt (by rw [HIA.out,hv,decide_eq_false htm];rfl)];simp [hz])
                     have htm2 : (n1 : Int) < tm:=by omega
                     clear HD HP
                     go_wp2_with fail
                     refine TillZ.region (t:=3) hmx (fun _ => True) ?_
                     refine TillZ.take4 (i:=2) (v:=.int .i64 (k : Int)) rfl rfl rfl (by kernel_rfl) trivial (fun u _ => by go_simp) ?_
                     simp only [pS,List.set,zT,zZ,zU]
                     refine TillZ.value (i:=0) (v:=.pointer (some ⟨w.heap.size,5,none⟩)) (by kernel_rfl) rfl rfl rfl (by go_simp) trivial ?_
                     simp only [pS,List.set,zT,zZ]
                     refine TillZ.value (i:=1) (v:=.slice (some ⟨g,o,none⟩) n2 a4) (by kernel_rfl) rfl rfl rfl (by go_simp) trivial ?_
                     simp only [pS,List.set,zT,zZ,zU]
                     refine TillZ.hand (v:=.pointer (some ⟨g,o + k * 3,none⟩)) (by kernel_rfl) rfl rfl (by go_simp) ?_
                     simp only [pS,List.set,zT,zZ,zU]
                     refine TillZ.any_value (i:=4) (v:=.agg #[.string nm,.int .i64 tm,.string bd]) (by kernel_rfl) rfl rfl (by go_simp) ?_
                     simp only [pS,List.set,zT,zZ,zU]
                     refine TillZ.any_call (i:=5) (f:=55) (args:=#[.agg #[.string nm,.int .i64 tm,.string bd]]) (by kernel_rfl) rfl rfl (by go_simp) ?_
                     refine Calls.mono (l07Item_any nm tm bd _ hsz.1 hsz.2) ?_
                     rintro e w5 ⟨rfl,hb⟩
                     rw [hv]
                     refine ⟨_,rfl,?_⟩
                     simp only [pS,List.set,zT,zZ,zU]
                     have hG:=And.intro (hFn.1.drew.below hb) (hFn.2.drew.trans (hb.mono hFn.2.size))
                     clear x5 t0 t1 t2 hFn hb
                     obtain ⟨y5,y0,y1,y2⟩:=HC.out _ hG
                     refine TillZ.any_value (i:=6) (v:=.bool false) (by kernel_rfl) rfl rfl (by go_simp) ?_
                     simp only [pS,List.set,zT,zZ,zU]
                     refine TillZ.any_value (i:=7) (v:=.bool false) (by kernel_rfl) rfl rfl (by go_simp) ?_
                     simp only [pS,List.set,zT,zZ,zU]
                     refine TillZ.still (m:=8) rfl (by kernel_rfl) (by kernel_rfl) ?_
                     dsimp only [List.drop]
                     iterate 10 (with_reducible refine TillZ.step (by kernel_rfl) (fun K hK => ?_);go_simp;refine hK _ ?_;clear hK K)
                     iterate 18 (with_reducible refine TillZ.no (by kernel_rfl) ?_;simp only [pS,List.set])
                     iterate 1 (with_reducible refine TillZ.step (by kernel_rfl) (fun K hK => ?_);go_simp;refine hK _ ?_;clear hK K)
                     with_reducible refine wpStill_nil ?_
                     go_wp2_with fail
                     go_ret
                     exact ⟨ret_bool HF.out,hG.2⟩
               · obtain rfl : n2 = k:=by omega
                 have HF : Hid (true = R):=qH (by rw [HD.out,hc,HT.out,HI.out,decide_eq_true ⟨hn,hn5⟩,decide_eq_true h8];simp)
                 clear HD
                 go_wp2_with fail
                 go_ret
                 exact ⟨ret_bool HF.out,HB.out.2⟩
         · skip
           have HF : Hid (false = R):=qH (by rw [HD.out,hz,decide_eq_false h8];simp)
           go_enter Tryz.func18,Tryz.ntmps18
           go_wp2_with fail
           rw [<- hW]
           clear hW HD
           refine (l07Zero_any c0 c1 c2 c3 a1 a2 n1 n2 a3 a4 _).mono ?_
           rintro e w1 ⟨rfl,hb⟩
           rw [hz]
           have hA1:=hA.below hb
           have HB1:=qH (hb0.trans (hb.mono hb0.size))
           have x0:=hA1.cell 0 _ rfl
           have x1:=hA1.cell 1 _ rfl
           have x2:=hA1.cell 2 _ rfl
           have x3:=hA1.cell 3 _ rfl
           have x4:=hA1.cell 4 _ rfl
           have HA1:=qH hA1
           clear hb hA hb0 hA1
           go_wp2_with fail
           refine (l07Conf_any c0 c1 c2 c3 _).mono ?_
           rintro e w2 ⟨rfl,hb⟩
           rw [hc]
           have HB2:=qH (HB1.out.trans (hb.mono HB1.out.size))
           have x5:=(HA1.out.below hb).cell 5 _ rfl
           clear hb x0 x1 x2 x3 x4
           go_wp2_with fail
           go_ret
           exact ⟨ret_bool HF.out,HB2.out⟩
       · skip
         have HF : Hid (false = R):=qH (by rw [HD.out,hz,decide_eq_false (show ¬ (1 <= n1 /\ n1 <= 5) by omega)];simp)
         go_enter Tryz.func18,Tryz.ntmps18
         go_wp2_with fail
         rw [<- hW]
         clear hW HD
         refine (l07Zero_any c0 c1 c2 c3 a1 a2 n1 n2 a3 a4 _).mono ?_
         rintro e w1 ⟨rfl,hb⟩
         rw [hz]
         have hA1:=hA.below hb
         have HB1:=qH (hb0.trans (hb.mono hb0.size))
         have x0:=hA1.cell 0 _ rfl
         have x1:=hA1.cell 1 _ rfl
         have x2:=hA1.cell 2 _ rfl
         have x3:=hA1.cell 3 _ rfl
         have x4:=hA1.cell 4 _ rfl
         have HA1:=qH hA1
         clear hb hA hb0 hA1
         go_wp2_with fail
         refine (l07Conf_any c0 c1 c2 c3 _).mono ?_
         rintro e w2 ⟨rfl,hb⟩
         rw [hc]
         have HB2:=qH (HB1.out.trans (hb.mono HB1.out.size))
         have x5:=(HA1.out.below hb).cell 5 _ rfl
         clear hb x0 x1 x2 x3 x4
         go_wp2_with fail
         go_ret
         exact ⟨ret_bool HF.out,HB2.out⟩
     · skip
       have HF : Hid (false = R):=qH (by rw [HD.out,hz,decide_eq_false (show ¬ (1 <= n1 /\ n1 <= 5) by omega)];simp)
       go_enter Tryz.func18,Tryz.ntmps18
       go_wp2_with fail
       rw [<- hW]
       clear hW HD
       refine (l07Zero_any c0 c1 c2 c3 a1 a2 n1 n2 a3 a4 _).mono ?_
       rintro e w1 ⟨rfl,hb⟩
       rw [hz]
       have hA1:=hA.below hb
       have HB1:=qH (hb0.trans (hb.mono hb0.size))
       have x0:=hA1.cell 0 _ rfl
       have x1:=hA1.cell 1 _ rfl
       have x2:=hA1.cell 2 _ rfl
       have x3:=hA1.cell 3 _ rfl
       have x4:=hA1.cell 4 _ rfl
       have HA1:=qH hA1
       clear hb hA hb0 hA1
       go_wp2_with fail
       refine (l07Conf_any c0 c1 c2 c3 _).mono ?_
       rintro e w2 ⟨rfl,hb⟩
       rw [hc]
       have HB2:=qH (HB1.out.trans (hb.mono HB1.out.size))
       have x5:=(HA1.out.below hb).cell 5 _ rfl
       clear hb x0 x1 x2 x3 x4
       go_wp2_with fail
       go_ret
       exact ⟨ret_bool HF.out,HB2.out⟩
 · skip
   have HF : Hid (true = R):=qH (by rw [HD.out,hz];simp)
   go_enter Tryz.func18,Tryz.ntmps18
   go_wp2_with fail
   rw [<- hW]
   clear hW HD
   refine (l07Zero_any c0 c1 c2 c3 a1 a2 n1 n2 a3 a4 _).mono ?_
   rintro e w1 ⟨rfl,hb⟩
   rw [hz]
   have HB1:=qH (hb0.trans (hb.mono hb0.size))
   clear hb hA hb0
   go_wp2_with fail
   go_ret
   exact ⟨ret_bool HF.out,HB1.out⟩
end Go.Proofs.YtbgoldeopmlbnaaGreatDoor
namespace Go.Proofs.YtbgoldeopmlbnaaGreatDoor
open Go.RowKit Go.PlainAid G IRow
set_option linter.unusedVariables false
def stE : Enc ByteArray:=⟨1,fun t => [.string t],fun _ => rfl,by intro x v hv;simp at hv;subst hv;rfl⟩
theorem infoStr : (Tryz.prog.info? 9).map (fun i => (i.zero,i.size,i.bytes)) = some (some (.string ByteArray.empty),1,16):=by kernel_rfl
theorem append_opz {α : Type} (E : Enc α) (d : α) {P : Program} {ops : Array Oper} {md : Region.Mode} {S : World -> Prop} {Q : Exit -> Act -> World -> Prop} {i t k : Nat} {listed : Array Bool} {o : Oper} {a : Act} {w : World} (s x : Operand) (T : TypeId)
 (ho : ops[i]? = some o) (hg : o.guard = none) (hne : Nat.beq i t = false) (hop : o.op = .call { callee:=.builtin .append,args:=#[s,x],argTypes:=#[T,T] })
 (e : TypeId) (ti : TypeInfo) (z : Value) (bytes : Nat) (ht : P.underlying T = some (.slice e)) (hi : P.info? e = some ti) (hz : ti.zero = some z) (hsize : ti.size = E.k) (hby : ti.bytes = bytes) (hzs : z.cells.size = E.k) (hk : 0 < E.k) (hbb : bytes <= 1024)
 (B : Nat) (v : Value) (n : Nat) (ps : List α) (hs : a.eval s = v) (hown : w.ownsRow B e E.k v n (E.flat ps)) (ao : Option Addr) (m c : Nat) (qs : List α) (hx : a.eval x = .slice ao m c) (hr : SR E d w ao m c qs) (hB : B <= w.heap.size) (hn : n <= 1048576) (hm : m <= 1048576)
 (h : ∀ v' w',w'.ownsRow B e E.k v' (n + m) (E.flat (ps ++ qs)) -> w.grownBy w' v.ownBlock -> S w' /\ TillZ.wpZ P md ops S t Q k (listed.setIfInBounds i true) (a.put o.dst v') w') :
 TillZ.opZ P ops i (fun a' w' => (i = t -> wpAny P md ops Q k (listed.setIfInBounds i true) a' w') /\ (i ≠ t -> S w' /\ TillZ.wpZ P md ops S t Q k (listed.setIfInBounds i true) a' w')) a w:=by
 obtain ⟨v',w',h1,h2,h3⟩:=run_append_rows E d (P:=P) (w:=w) (o:=o) (a:=a) s x T hop e ti z bytes ht hi hz hsize hby hzs hk hbb B v n ps hs hown ao m c qs hx hr hB hn hm
 obtain ⟨h4,h5⟩:=h v' w' h2 h3
 exact TillZ.opz ho hg hne h1 h4 h5
theorem append_wl {α : Type} (E : Enc α) (d : α) {P : Program} {w : World} {ops : Array Oper} {rest : List Oper} {o : Oper} {a : Act} {Q : Exit -> Act -> World -> Prop} (hgd : o.guard = none) (s x : Operand) (T : TypeId)
 (hop : o.op = .call { callee:=.builtin .append,args:=#[s,x],argTypes:=#[T,T] })
 (e : TypeId) (ti : TypeInfo) (z : Value) (bytes : Nat) (ht : P.underlying T = some (.slice e)) (hi : P.info? e = some ti) (hz : ti.zero = some z) (hsize : ti.size = E.k) (hby : ti.bytes = bytes) (hzs : z.cells.size = E.k) (hk : 0 < E.k) (hbb : bytes <= 1024)
 (B : Nat) (v : Value) (n : Nat) (ps : List α) (hs : a.eval s = v) (hown : w.ownsRow B e E.k v n (E.flat ps)) (ao : Option Addr) (m c : Nat) (qs : List α) (hx : a.eval x = .slice ao m c) (hr : SR E d w ao m c qs) (hB : B <= w.heap.size) (hn : n <= 1048576) (hm : m <= 1048576)
 (h : ∀ v' w',w'.ownsRow B e E.k v' (n + m) (E.flat (ps ++ qs)) -> w.grownBy w' v.ownBlock -> wpList P ops Q rest (a.put o.dst v') w') : wpList P ops Q (o :: rest) a w:=by
 refine wpList_plain hgd fun K' hK' => ?_
 obtain ⟨v',w',h1,h2,h3⟩:=run_append_rows E d (P:=P) (w:=w) (o:=o) (a:=a) s x T hop e ti z bytes ht hi hz hsize hby hzs hk hbb B v n ps hs hown ao m c qs hx hr hB hn hm
 unfold Oper.wp
 rw [h1]
 exact hK' _ _ (h v' w' h2 h3)
theorem own_made0 {α : Type} (E : Enc α) (u : World) (e : TypeId) {base : Nat} (hb : base <= u.heap.size) : (u.alloc (.cells #[] e)).ownsRow base e E.k (.slice (some ⟨u.heap.size,0,none⟩) 0 0) 0 (E.flat []) :=
 World.ownsRow_made u #[] 0 hb (by decide) (by simp)
theorem l07Copy_any (c0 c1 c2 c3 : Int) (a1 a2 : Option Addr) (n1 n2 a3 a4 : Nat) (ts : List Tm) (is : List Im) (w : World) (h : BkR w a1 n1 a3 a2 n2 a4 ts is) (hn1 : n1 <= 1048576) (hn2 : n2 <= 1048576) :
 Calls Tryz.prog 84 #[.agg #[.int .i64 c0,.int .i64 c1,.int .i64 c2,.int .i64 c3,.slice a1 n1 a3,.slice a2 n2 a4]] w (NewBook c0 c1 c2 c3 ts is w):=by
 have hmx : Tryz.prog.follows .mixedOrders = true:=by kernel_rfl
 obtain ⟨i1,hi1,hz1,hs1,hy1⟩:=info_parts infoTerm
 obtain ⟨i2,hi2,hz2,hs2,hy2⟩:=info_parts infoItem
 obtain ⟨W,hW⟩ : ∃ W,W = (w.alloc (.cells #[.int .i64 c0,.int .i64 c1,.int .i64 c2,.int .i64 c3,.slice a1 n1 a3,.slice a2 n2 a4] 28)).alloc (.cells #[.int .i64 0,.int .i64 0,.int .i64 0,.int .i64 0,.slice none 0 0,.slice none 0 0] 28):=⟨_,rfl⟩
 have hb0 : Below w.heap.size w W:=by rw [hW];repeat' (first | exact Below.refl _ _ | refine Below.alloc ?_ (by first | exact Nat.le_refl _ | (simp;done) | (simp;omega)) _)
 have hA : BoxC W (w.heap.size) [.int .i64 c0,.int .i64 c1,.int .i64 c2,.int .i64 c3,.slice a1 n1 a3,.slice a2 n2 a4]:=by rw [hW];exact (BoxC.made _ _ _).alloc _
 have hC : BoxC W (w.heap.size + 1) [.int .i64 0,.int .i64 0,.int .i64 0,.int .i64 0,.slice none 0 0,.slice none 0 0]:=by rw [hW];have:=BoxC.made (w.alloc (.cells #[.int .i64 c0,.int .i64 c1,.int .i64 c2,.int .i64 c3,.slice a1 n1 a3,.slice a2 n2 a4] 28)) #[.int .i64 0,.int .i64 0,.int .i64 0,.int .i64 0,.slice none 0 0,.slice none 0 0] 28;rwa [World.size_alloc] at this
 obtain ⟨S,hSd⟩ : ∃ S : World -> Prop,S = fun u => BoxC u w.heap.size [.int .i64 c0,.int .i64 c1,.int .i64 c2,.int .i64 c3,.slice a1 n1 a3,.slice a2 n2 a4] /\ BoxC u (w.heap.size + 1) [.int .i64 0,.int .i64 0,.int .i64 0,.int .i64 0,.slice none 0 0,.slice none 0 0] /\ Below w.heap.size w u:=⟨_,rfl⟩
 have HSA : Hid (∀ u,S u -> BoxC u w.heap.size [.int .i64 c0,.int .i64 c1,.int .i64 c2,.int .i64 c3,.slice a1 n1 a3,.slice a2 n2 a4]):=qH (fun u hu => by rw [hSd] at hu;exact hu.1)
 have HSC : Hid (∀ u,S u -> BoxC u (w.heap.size + 1) [.int .i64 0,.int .i64 0,.int .i64 0,.int .i64 0,.slice none 0 0,.slice none 0 0]):=qH (fun u hu => by rw [hSd] at hu;exact hu.2.1)
 have HSB : Hid (∀ u,S u -> Below w.heap.size w u):=qH (fun u hu => by rw [hSd] at hu;exact hu.2.2)
 have HSa : Hid (∀ u ob,S u -> S (u.alloc ob)):=qH (fun u ob hu => by rw [hSd] at hu ⊢;exact ⟨hu.1.alloc _,hu.2.1.alloc _,hu.2.2.alloc hu.2.2.size _⟩)
 have HSg : Hid (∀ u u' row,S u -> u.grownBy u' row -> (∀ q,row = some q -> w.heap.size + 1 < q) -> S u'):=qH (fun u u' row hu hg hq => by
  rw [hSd] at hu ⊢
  exact ⟨hu.1.grown hg (fun e => by have:=hq _ e.symm;omega),hu.2.1.grown hg (fun e => by have:=hq _ e.symm;omega),hu.2.2.grown hg hu.2.2.size (fun q hq2 => by have:=hq q hq2;omega)⟩)
 have hS0 : S W.drew:=by rw [hSd];exact ⟨hA.drew,hC.drew,hb0.drew⟩
 have HR:=qH h
 have hsz : ∀ u,S u -> w.heap.size + 1 < u.heap.size:=fun u hu => (HSC.out u hu).lt
 have HSZ:=qH hsz
 clear hA hC hSd h hb0 hsz
 go_enter Tryz.func84,Tryz.ntmps84
 go_wp2_with fail
 rw [<- hW]
 clear hW
 refine TillZ.region (t:=11) hmx S ?_
 refine TillZ.take4 (i:=0) (v:=.pointer (some ⟨w.heap.size,0,none⟩)) rfl rfl rfl (by kernel_rfl) hS0 (fun u hu => by go_simp) ?_
 simp only [pS,List.set,zT,zZ]
 refine TillZ.take4 (i:=1) (v:=.agg #[.int .i64 c0,.int .i64 c1,.int .i64 c2,.int .i64 c3]) rfl rfl rfl (by kernel_rfl) hS0 (fun u hu => by have x0:=(HSA.out u hu).cell 0 _ rfl;have x1:=(HSA.out u hu).cell 1 _ rfl;have x2:=(HSA.out u hu).cell 2 _ rfl;have x3:=(HSA.out u hu).cell 3 _ rfl;go_simp) ?_
 simp only [pS,List.set,zT,zZ,zU]
 refine TillZ.take4 (i:=3) (v:=.pointer (some ⟨w.heap.size,4,none⟩)) rfl rfl rfl (by kernel_rfl) hS0 (fun u hu => by go_simp) ?_
 simp only [pS,List.set,zT,zZ,zU]
 refine TillZ.take4 (i:=4) (v:=.slice a1 n1 a3) rfl rfl rfl (by kernel_rfl) hS0 (fun u hu => by have x4:=(HSA.out u hu).cell 4 _ rfl;go_simp) ?_
 simp only [pS,List.set,zT,zZ,zU]
 refine TillZ.take4 (i:=7) (v:=.pointer (some ⟨w.heap.size,5,none⟩)) rfl rfl rfl (by kernel_rfl) hS0 (fun u hu => by go_simp) ?_
 simp only [pS,List.set,zT,zZ,zU]
 refine TillZ.take4 (i:=8) (v:=.slice a2 n2 a4) rfl rfl rfl (by kernel_rfl) hS0 (fun u hu => by have x5:=(HSA.out u hu).cell 5 _ rfl;go_simp) ?_
 simp only [pS,List.set,zT,zZ,zU]
 generalize W.drew = u0 at hS0 ⊢
 refine TillZ.two (i:=2) (j:=6) (by kernel_rfl) ?_ ?_
 · skip
   refine TillZ.opz (i:=2) (v:=.slice (some ⟨u0.heap.size,0,none⟩) 0 0) (w':=u0.alloc (.cells #[] 30)) rfl rfl rfl (by go_simp) (HSa.out _ _ hS0) ?_
   simp only [pS,List.set,zT,zZ,zU]
   have S1:=HSa.out _ (.cells #[] 30) hS0
   have O1:=own_made0 tmE u0 30 (base:=w.heap.size + 2) (by have:=HSZ.out _ hS0;omega)
   obtain ⟨v1,hv1⟩ : ∃ V,V = Value.slice (some ⟨u0.heap.size,0,none⟩) 0 0:=⟨_,rfl⟩
   obtain ⟨u1,hu1⟩ : ∃ U,U = u0.alloc (.cells #[] 30):=⟨_,rfl⟩
   rw [<- hv1] at O1 ⊢
   rw [<- hu1] at S1 O1 ⊢
   clear hu1 hv1
   refine TillZ.two (i:=5) (j:=6) (by kernel_rfl) ?_ ?_
   · skip
     refine append_opz tmE tmD (i:=5) (.tmp 5) (.tmp 7) 25 rfl rfl rfl rfl 30 i1 _ 24 Tryz.underlying25 hi1 hz1 hs1 hy1 rfl (by decide) (by decide) (w.heap.size + 2) v1 0 [] rfl O1 a1 n1 a3 ts rfl (HR.out.below (HSB.out _ S1)).t (by have:=HSZ.out _ S1;omega) (by omega) (by omega) (fun v2 u2 O2 G2 => ?_)
     simp only [pS,List.set,zT,zZ,zU]
     rw [Nat.zero_add,List.nil_append] at O2
     have S2:=HSg.out _ _ _ S1 G2 (fun q hq => by have:=(O1.lt q hq).1;omega)
     refine ⟨S2,?_⟩
     refine TillZ.one (i:=6) (by kernel_rfl) ?_
     refine TillZ.opz (i:=6) (v:=.slice (some ⟨u2.heap.size,0,none⟩) 0 0) (w':=u2.alloc (.cells #[] 32)) rfl rfl rfl (by go_simp) (HSa.out _ _ S2) ?_
     simp only [pS,List.set,zT,zZ,zU]
     have S3:=HSa.out _ (.cells #[] 32) S2
     have O3:=own_made0 imE u2 32 (base:=w.heap.size + 2) (by have:=HSZ.out _ S2;omega)
     have P3T:=World.ownsRow.alloc O2 (.cells #[] 32)
     obtain ⟨v3,hv3⟩ : ∃ V,V = Value.slice (some ⟨u2.heap.size,0,none⟩) 0 0:=⟨_,rfl⟩
     obtain ⟨u3,hu3⟩ : ∃ U,U = u2.alloc (.cells #[] 32):=⟨_,rfl⟩
     rw [<- hv3] at O3 ⊢
     rw [<- hu3] at S3 O3 P3T ⊢
     clear hu3 hv3
     refine TillZ.one (i:=9) (by kernel_rfl) ?_
     refine append_opz imE imD (i:=9) (.tmp 9) (.tmp 11) 26 rfl rfl rfl rfl 32 i2 _ 40 Tryz.underlying26 hi2 hz2 hs2 hy2 rfl (by decide) (by decide) (w.heap.size + 2) v3 0 [] rfl O3 a2 n2 a4 is rfl (HR.out.below (HSB.out _ S3)).i (by have:=HSZ.out _ S3;omega) (by omega) (by omega) (fun v4 u4 O4 G4 => ?_)
     simp only [pS,List.set,zT,zZ,zU]
     rw [Nat.zero_add,List.nil_append] at O4
     have S4:=HSg.out _ _ _ S3 G4 (fun q hq => by have:=(O3.lt q hq).1;omega)
     have P4T:=own_grown P3T G4 (own_types P3T O3 (by decide))
     refine ⟨S4,?_⟩
     obtain ⟨b1,b3,rfl⟩:=own_shape P4T
     obtain ⟨b2,b4,rfl⟩:=own_shape O4
     refine TillZ.one (i:=10) (by kernel_rfl) ?_
     refine TillZ.opz (i:=10) (v:=.agg #[.int .i64 c0,.int .i64 c1,.int .i64 c2,.int .i64 c3,.slice b1 n1 b3,.slice b2 n2 b4]) (w':=u4) rfl rfl rfl (by go_simp) S4 ?_
     simp only [pS,List.set,zT,zZ,zU]
     have x0:=(HSC.out _ S4).cell 0 _ rfl
     have f0:=(HSC.out _ S4).free 0
     have x1:=(HSC.out _ S4).cell 1 _ rfl
     have f1:=(HSC.out _ S4).free 1
     have x2:=(HSC.out _ S4).cell 2 _ rfl
     have f2:=(HSC.out _ S4).free 2
     have x3:=(HSC.out _ S4).cell 3 _ rfl
     have f3:=(HSC.out _ S4).free 3
     have x4:=(HSC.out _ S4).cell 4 _ rfl
     have f4:=(HSC.out _ S4).free 4
     have x5:=(HSC.out _ S4).cell 5 _ rfl
     have f5:=(HSC.out _ S4).free 5
     refine TillZ.hand_skip (w':=(((((u4.setCell ⟨w.heap.size + 1,0,none⟩ (.int .i64 c0)).setCell ⟨w.heap.size + 1,1,none⟩ (.int .i64 c1)).setCell ⟨w.heap.size + 1,2,none⟩ (.int .i64 c2)).setCell ⟨w.heap.size + 1,3,none⟩ (.int .i64 c3)).setCell ⟨w.heap.size + 1,4,none⟩ (.slice b1 n1 b3)).setCell ⟨w.heap.size + 1,5,none⟩ (.slice b2 n2 b4)) (by kernel_rfl) rfl rfl (by go_simp) ?_
     simp only [pN,zT,zZ,zU]
     refine TillZ.any_done (by kernel_rfl) ?_ _
     have hX:=(((((((HSC.out _ S4).set (j:=0) (by simp) (.int .i64 c0)).set (j:=1) (by simp) (.int .i64 c1)).set (j:=2) (by simp) (.int .i64 c2)).set (j:=3) (by simp) (.int .i64 c3)).set (j:=4) (by simp) (.slice b1 n1 b3)).set (j:=5) (by simp) (.slice b2 n2 b4))
     have HXB:=qH (((((((HSB.out _ S4).setCell (p:=⟨w.heap.size + 1,0,none⟩) (by dsimp only;omega) (.int .i64 c0)).setCell (p:=⟨w.heap.size + 1,1,none⟩) (by dsimp only;omega) (.int .i64 c1)).setCell (p:=⟨w.heap.size + 1,2,none⟩) (by dsimp only;omega) (.int .i64 c2)).setCell (p:=⟨w.heap.size + 1,3,none⟩) (by dsimp only;omega) (.int .i64 c3)).setCell (p:=⟨w.heap.size + 1,4,none⟩) (by dsimp only;omega) (.slice b1 n1 b3)).setCell (p:=⟨w.heap.size + 1,5,none⟩) (by dsimp only;omega) (.slice b2 n2 b4))
     have HXT:=qH (own_other (own_other (own_other (own_other (own_other (own_other (own_mono P4T (show w.heap.size <= w.heap.size + 2 by omega)) (b:=w.heap.size + 1) (fun q hq => by have:=(P4T.lt q hq).1;omega) ⟨w.heap.size + 1,0,none⟩ (.int .i64 c0) rfl) (b:=w.heap.size + 1) (fun q hq => by have:=(P4T.lt q hq).1;omega) ⟨w.heap.size + 1,1,none⟩ (.int .i64 c1) rfl) (b:=w.heap.size + 1) (fun q hq => by have:=(P4T.lt q hq).1;omega) ⟨w.heap.size + 1,2,none⟩ (.int .i64 c2) rfl) (b:=w.heap.size + 1) (fun q hq => by have:=(P4T.lt q hq).1;omega) ⟨w.heap.size + 1,3,none⟩ (.int .i64 c3) rfl) (b:=w.heap.size + 1) (fun q hq => by have:=(P4T.lt q hq).1;omega) ⟨w.heap.size + 1,4,none⟩ (.slice b1 n1 b3) rfl) (b:=w.heap.size + 1) (fun q hq => by have:=(P4T.lt q hq).1;omega) ⟨w.heap.size + 1,5,none⟩ (.slice b2 n2 b4) rfl)
     have HXI:=qH (own_other (own_other (own_other (own_other (own_other (own_other (own_mono O4 (show w.heap.size <= w.heap.size + 2 by omega)) (b:=w.heap.size + 1) (fun q hq => by have:=(O4.lt q hq).1;omega) ⟨w.heap.size + 1,0,none⟩ (.int .i64 c0) rfl) (b:=w.heap.size + 1) (fun q hq => by have:=(O4.lt q hq).1;omega) ⟨w.heap.size + 1,1,none⟩ (.int .i64 c1) rfl) (b:=w.heap.size + 1) (fun q hq => by have:=(O4.lt q hq).1;omega) ⟨w.heap.size + 1,2,none⟩ (.int .i64 c2) rfl) (b:=w.heap.size + 1) (fun q hq => by have:=(O4.lt q hq).1;omega) ⟨w.heap.size + 1,3,none⟩ (.int .i64 c3) rfl) (b:=w.heap.size + 1) (fun q hq => by have:=(O4.lt q hq).1;omega) ⟨w.heap.size + 1,4,none⟩ (.slice b1 n1 b3) rfl) (b:=w.heap.size + 1) (fun q hq => by have:=(O4.lt q hq).1;omega) ⟨w.heap.size + 1,5,none⟩ (.slice b2 n2 b4) rfl)
     generalize ((((((u4.setCell ⟨w.heap.size + 1,0,none⟩ (.int .i64 c0)).setCell ⟨w.heap.size + 1,1,none⟩ (.int .i64 c1)).setCell ⟨w.heap.size + 1,2,none⟩ (.int .i64 c2)).setCell ⟨w.heap.size + 1,3,none⟩ (.int .i64 c3)).setCell ⟨w.heap.size + 1,4,none⟩ (.slice b1 n1 b3)).setCell ⟨w.heap.size + 1,5,none⟩ (.slice b2 n2 b4)) = X at *
     have g0:=hX.cell 0 _ rfl
     have g1:=hX.cell 1 _ rfl
     have g2:=hX.cell 2 _ rfl
     have g3:=hX.cell 3 _ rfl
     have g4:=hX.cell 4 _ rfl
     have g5:=hX.cell 5 _ rfl
     clear hX x0 f0 x1 f1 x2 f2 x3 f3 x4 f4 x5 f5
     go_wp2_with fail
     exact bodyPost_ret (v:=.agg #[.int .i64 c0,.int .i64 c1,.int .i64 c2,.int .i64 c3,.slice b1 n1 b3,.slice b2 n2 b4]) (by simp [results,Tryz.results84,go_sem,g0,g1,g2,g3,g4,g5]) rfl ⟨b1,n1,b3,b2,n2,b4,rfl,⟨HXT.out,HXI.out⟩,HXB.out⟩
   · skip
     refine TillZ.opz (i:=6) (v:=.slice (some ⟨u1.heap.size,0,none⟩) 0 0) (w':=u1.alloc (.cells #[] 32)) rfl rfl rfl (by go_simp) (HSa.out _ _ S1) ?_
     simp only [pS,List.set,zT,zZ,zU]
     have S5:=HSa.out _ (.cells #[] 32) S1
     have O5:=own_made0 imE u1 32 (base:=w.heap.size + 2) (by have:=HSZ.out _ S1;omega)
     have P5T:=World.ownsRow.alloc O1 (.cells #[] 32)
     obtain ⟨v5,hv5⟩ : ∃ V,V = Value.slice (some ⟨u1.heap.size,0,none⟩) 0 0:=⟨_,rfl⟩
     obtain ⟨u5,hu5⟩ : ∃ U,U = u1.alloc (.cells #[] 32):=⟨_,rfl⟩
     rw [<- hv5] at O5 ⊢
     rw [<- hu5] at S5 O5 P5T ⊢
     clear hu5 hv5
     refine TillZ.one (i:=5) (by kernel_rfl) ?_
     refine append_opz tmE tmD (i:=5) (.tmp 5) (.tmp 7) 25 rfl rfl rfl rfl 30 i1 _ 24 Tryz.underlying25 hi1 hz1 hs1 hy1 rfl (by decide) (by decide) (w.heap.size + 2) v1 0 [] rfl P5T a1 n1 a3 ts rfl (HR.out.below (HSB.out _ S5)).t (by have:=HSZ.out _ S5;omega) (by omega) (by omega) (fun v6 u6 O6 G6 => ?_)
     simp only [pS,List.set,zT,zZ,zU]
     rw [Nat.zero_add,List.nil_append] at O6
     have S6:=HSg.out _ _ _ S5 G6 (fun q hq => by have:=(P5T.lt q hq).1;omega)
     have P6I:=own_grown O5 G6 (own_types O5 P5T (by decide))
     refine ⟨S6,?_⟩
     refine TillZ.one (i:=9) (by kernel_rfl) ?_
     refine append_opz imE imD (i:=9) (.tmp 9) (.tmp 11) 26 rfl rfl rfl rfl 32 i2 _ 40 Tryz.underlying26 hi2 hz2 hs2 hy2 rfl (by decide) (by decide) (w.heap.size + 2) v5 0 [] rfl P6I a2 n2 a4 is rfl (HR.out.below (HSB.out _ S6)).i (by have:=HSZ.out _ S6;omega) (by omega) (by omega) (fun v7 u7 O7 G7 => ?_)
     simp only [pS,List.set,zT,zZ,zU]
     rw [Nat.zero_add,List.nil_append] at O7
     have S7:=HSg.out _ _ _ S6 G7 (fun q hq => by have:=(P6I.lt q hq).1;omega)
     have P7T:=own_grown O6 G7 (own_types O6 P6I (by decide))
     refine ⟨S7,?_⟩
     obtain ⟨b1,b3,rfl⟩:=own_shape P7T
     obtain ⟨b2,b4,rfl⟩:=own_shape O7
     refine TillZ.one (i:=10) (by kernel_rfl) ?_
     refine TillZ.opz (i:=10) (v:=.agg #[.int .i64 c0,.int .i64 c1,.int .i64 c2,.int .i64 c3,.slice b1 n1 b3,.slice b2 n2 b4]) (w':=u7) rfl rfl rfl (by go_simp) S7 ?_
     simp only [pS,List.set,zT,zZ,zU]
     have x0:=(HSC.out _ S7).cell 0 _ rfl
     have f0:=(HSC.out _ S7).free 0
     have x1:=(HSC.out _ S7).cell 1 _ rfl
     have f1:=(HSC.out _ S7).free 1
     have x2:=(HSC.out _ S7).cell 2 _ rfl
     have f2:=(HSC.out _ S7).free 2
     have x3:=(HSC.out _ S7).cell 3 _ rfl
     have f3:=(HSC.out _ S7).free 3
     have x4:=(HSC.out _ S7).cell 4 _ rfl
     have f4:=(HSC.out _ S7).free 4
     have x5:=(HSC.out _ S7).cell 5 _ rfl
     have f5:=(HSC.out _ S7).free 5
     refine TillZ.hand_skip (w':=(((((u7.setCell ⟨w.heap.size + 1,0,none⟩ (.int .i64 c0)).setCell ⟨w.heap.size + 1,1,none⟩ (.int .i64 c1)).setCell ⟨w.heap.size + 1,2,none⟩ (.int .i64 c2)).setCell ⟨w.heap.size + 1,3,none⟩ (.int .i64 c3)).setCell ⟨w.heap.size + 1,4,none⟩ (.slice b1 n1 b3)).setCell ⟨w.heap.size + 1,5,none⟩ (.slice b2 n2 b4)) (by kernel_rfl) rfl rfl (by go_simp) ?_
     simp only [pN,zT,zZ,zU]
     refine TillZ.any_done (by kernel_rfl) ?_ _
     have hX:=(((((((HSC.out _ S7).set (j:=0) (by simp) (.int .i64 c0)).set (j:=1) (by simp) (.int .i64 c1)).set (j:=2) (by simp) (.int .i64 c2)).set (j:=3) (by simp) (.int .i64 c3)).set (j:=4) (by simp) (.slice b1 n1 b3)).set (j:=5) (by simp) (.slice b2 n2 b4))
     have HXB:=qH (((((((HSB.out _ S7).setCell (p:=⟨w.heap.size + 1,0,none⟩) (by dsimp only;omega) (.int .i64 c0)).setCell (p:=⟨w.heap.size + 1,1,none⟩) (by dsimp only;omega) (.int .i64 c1)).setCell (p:=⟨w.heap.size + 1,2,none⟩) (by dsimp only;omega) (.int .i64 c2)).setCell (p:=⟨w.heap.size + 1,3,none⟩) (by dsimp only;omega) (.int .i64 c3)).setCell (p:=⟨w.heap.size + 1,4,none⟩) (by dsimp only;omega) (.slice b1 n1 b3)).setCell (p:=⟨w.heap.size + 1,5,none⟩) (by dsimp only;omega) (.slice b2 n2 b4))
     have HXT:=qH (own_other (own_other (own_other (own_other (own_other (own_other (own_mono P7T (show w.heap.size <= w.heap.size + 2 by omega)) (b:=w.heap.size + 1) (fun q hq => by have:=(P7T.lt q hq).1;omega) ⟨w.heap.size + 1,0,none⟩ (.int .i64 c0) rfl) (b:=w.heap.size + 1) (fun q hq => by have:=(P7T.lt q hq).1;omega) ⟨w.heap.size + 1,1,none⟩ (.int .i64 c1) rfl) (b:=w.heap.size + 1) (fun q hq => by have:=(P7T.lt q hq).1;omega) ⟨w.heap.size + 1,2,none⟩ (.int .i64 c2) rfl) (b:=w.heap.size + 1) (fun q hq => by have:=(P7T.lt q hq).1;omega) ⟨w.heap.size + 1,3,none⟩ (.int .i64 c3) rfl) (b:=w.heap.size + 1) (fun q hq => by have:=(P7T.lt q hq).1;omega) ⟨w.heap.size + 1,4,none⟩ (.slice b1 n1 b3) rfl) (b:=w.heap.size + 1) (fun q hq => by have:=(P7T.lt q hq).1;omega) ⟨w.heap.size + 1,5,none⟩ (.slice b2 n2 b4) rfl)
     have HXI:=qH (own_other (own_other (own_other (own_other (own_other (own_other (own_mono O7 (show w.heap.size <= w.heap.size + 2 by omega)) (b:=w.heap.size + 1) (fun q hq => by have:=(O7.lt q hq).1;omega) ⟨w.heap.size + 1,0,none⟩ (.int .i64 c0) rfl) (b:=w.heap.size + 1) (fun q hq => by have:=(O7.lt q hq).1;omega) ⟨w.heap.size + 1,1,none⟩ (.int .i64 c1) rfl) (b:=w.heap.size + 1) (fun q hq => by have:=(O7.lt q hq).1;omega) ⟨w.heap.size + 1,2,none⟩ (.int .i64 c2) rfl) (b:=w.heap.size + 1) (fun q hq => by have:=(O7.lt q hq).1;omega) ⟨w.heap.size + 1,3,none⟩ (.int .i64 c3) rfl) (b:=w.heap.size + 1) (fun q hq => by have:=(O7.lt q hq).1;omega) ⟨w.heap.size + 1,4,none⟩ (.slice b1 n1 b3) rfl) (b:=w.heap.size + 1) (fun q hq => by have:=(O7.lt q hq).1;omega) ⟨w.heap.size + 1,5,none⟩ (.slice b2 n2 b4) rfl)
     generalize ((((((u7.setCell ⟨w.heap.size + 1,0,none⟩ (.int .i64 c0)).setCell ⟨w.heap.size + 1,1,none⟩ (.int .i64 c1)).setCell ⟨w.heap.size + 1,2,none⟩ (.int .i64 c2)).setCell ⟨w.heap.size + 1,3,none⟩ (.int .i64 c3)).setCell ⟨w.heap.size + 1,4,none⟩ (.slice b1 n1 b3)).setCell ⟨w.heap.size + 1,5,none⟩ (.slice b2 n2 b4)) = X at *
     have g0:=hX.cell 0 _ rfl
     have g1:=hX.cell 1 _ rfl
     have g2:=hX.cell 2 _ rfl
     have g3:=hX.cell 3 _ rfl
     have g4:=hX.cell 4 _ rfl
     have g5:=hX.cell 5 _ rfl
     clear hX x0 f0 x1 f1 x2 f2 x3 f3 x4 f4 x5 f5
     go_wp2_with fail
     exact bodyPost_ret (v:=.agg #[.int .i64 c0,.int .i64 c1,.int .i64 c2,.int .i64 c3,.slice b1 n1 b3,.slice b2 n2 b4]) (by simp [results,Tryz.results84,go_sem,g0,g1,g2,g3,g4,g5]) rfl ⟨b1,n1,b3,b2,n2,b4,rfl,⟨HXT.out,HXI.out⟩,HXB.out⟩
 · skip
   refine TillZ.opz (i:=6) (v:=.slice (some ⟨u0.heap.size,0,none⟩) 0 0) (w':=u0.alloc (.cells #[] 32)) rfl rfl rfl (by go_simp) (HSa.out _ _ hS0) ?_
   simp only [pS,List.set,zT,zZ,zU]
   have S8:=HSa.out _ (.cells #[] 32) hS0
   have O8:=own_made0 imE u0 32 (base:=w.heap.size + 2) (by have:=HSZ.out _ hS0;omega)
   obtain ⟨v8,hv8⟩ : ∃ V,V = Value.slice (some ⟨u0.heap.size,0,none⟩) 0 0:=⟨_,rfl⟩
   obtain ⟨u8,hu8⟩ : ∃ U,U = u0.alloc (.cells #[] 32):=⟨_,rfl⟩
   rw [<- hv8] at O8 ⊢
   rw [<- hu8] at S8 O8 ⊢
   clear hu8 hv8
   refine TillZ.one (i:=2) (by kernel_rfl) ?_
   refine TillZ.opz (i:=2) (v:=.slice (some ⟨u8.heap.size,0,none⟩) 0 0) (w':=u8.alloc (.cells #[] 30)) rfl rfl rfl (by go_simp) (HSa.out _ _ S8) ?_
   simp only [pS,List.set,zT,zZ,zU]
   have S9:=HSa.out _ (.cells #[] 30) S8
   have O9:=own_made0 tmE u8 30 (base:=w.heap.size + 2) (by have:=HSZ.out _ S8;omega)
   have P9I:=World.ownsRow.alloc O8 (.cells #[] 30)
   obtain ⟨v9,hv9⟩ : ∃ V,V = Value.slice (some ⟨u8.heap.size,0,none⟩) 0 0:=⟨_,rfl⟩
   obtain ⟨u9,hu9⟩ : ∃ U,U = u8.alloc (.cells #[] 30):=⟨_,rfl⟩
   rw [<- hv9] at O9 ⊢
   rw [<- hu9] at S9 O9 P9I ⊢
   clear hu9 hv9
   refine TillZ.one (i:=5) (by kernel_rfl) ?_
   refine append_opz tmE tmD (i:=5) (.tmp 5) (.tmp 7) 25 rfl rfl rfl rfl 30 i1 _ 24 Tryz.underlying25 hi1 hz1 hs1 hy1 rfl (by decide) (by decide) (w.heap.size + 2) v9 0 [] rfl O9 a1 n1 a3 ts rfl (HR.out.below (HSB.out _ S9)).t (by have:=HSZ.out _ S9;omega) (by omega) (by omega) (fun v10 u10 O10 G10 => ?_)
   simp only [pS,List.set,zT,zZ,zU]
   rw [Nat.zero_add,List.nil_append] at O10
   have S10:=HSg.out _ _ _ S9 G10 (fun q hq => by have:=(O9.lt q hq).1;omega)
   have P10I:=own_grown P9I G10 (own_types P9I O9 (by decide))
   refine ⟨S10,?_⟩
   refine TillZ.one (i:=9) (by kernel_rfl) ?_
   refine append_opz imE imD (i:=9) (.tmp 9) (.tmp 11) 26 rfl rfl rfl rfl 32 i2 _ 40 Tryz.underlying26 hi2 hz2 hs2 hy2 rfl (by decide) (by decide) (w.heap.size + 2) v8 0 [] rfl P10I a2 n2 a4 is rfl (HR.out.below (HSB.out _ S10)).i (by have:=HSZ.out _ S10;omega) (by omega) (by omega) (fun v11 u11 O11 G11 => ?_)
   simp only [pS,List.set,zT,zZ,zU]
   rw [Nat.zero_add,List.nil_append] at O11
   have S11:=HSg.out _ _ _ S10 G11 (fun q hq => by have:=(P10I.lt q hq).1;omega)
   have P11T:=own_grown O10 G11 (own_types O10 P10I (by decide))
   refine ⟨S11,?_⟩
   obtain ⟨b1,b3,rfl⟩:=own_shape P11T
   obtain ⟨b2,b4,rfl⟩:=own_shape O11
   refine TillZ.one (i:=10) (by kernel_rfl) ?_
   refine TillZ.opz (i:=10) (v:=.agg #[.int .i64 c0,.int .i64 c1,.int .i64 c2,.int .i64 c3,.slice b1 n1 b3,.slice b2 n2 b4]) (w':=u11) rfl rfl rfl (by go_simp) S11 ?_
   simp only [pS,List.set,zT,zZ,zU]
   have x0:=(HSC.out _ S11).cell 0 _ rfl
   have f0:=(HSC.out _ S11).free 0
   have x1:=(HSC.out _ S11).cell 1 _ rfl
   have f1:=(HSC.out _ S11).free 1
   have x2:=(HSC.out _ S11).cell 2 _ rfl
   have f2:=(HSC.out _ S11).free 2
   have x3:=(HSC.out _ S11).cell 3 _ rfl
   have f3:=(HSC.out _ S11).free 3
   have x4:=(HSC.out _ S11).cell 4 _ rfl
   have f4:=(HSC.out _ S11).free 4
   have x5:=(HSC.out _ S11).cell 5 _ rfl
   have f5:=(HSC.out _ S11).free 5
   refine TillZ.hand_skip (w':=(((((u11.setCell ⟨w.heap.size + 1,0,none⟩ (.int .i64 c0)).setCell ⟨w.heap.size + 1,1,none⟩ (.int .i64 c1)).setCell ⟨w.heap.size + 1,2,none⟩ (.int .i64 c2)).setCell ⟨w.heap.size + 1,3,none⟩ (.int .i64 c3)).setCell ⟨w.heap.size + 1,4,none⟩ (.slice b1 n1 b3)).setCell ⟨w.heap.size + 1,5,none⟩ (.slice b2 n2 b4)) (by kernel_rfl) rfl rfl (by go_simp) ?_
   simp only [pN,zT,zZ,zU]
   refine TillZ.any_done (by kernel_rfl) ?_ _
   have hX:=(((((((HSC.out _ S11).set (j:=0) (by simp) (.int .i64 c0)).set (j:=1) (by simp) (.int .i64 c1)).set (j:=2) (by simp) (.int .i64 c2)).set (j:=3) (by simp) (.int .i64 c3)).set (j:=4) (by simp) (.slice b1 n1 b3)).set (j:=5) (by simp) (.slice b2 n2 b4))
   have HXB:=qH (((((((HSB.out _ S11).setCell (p:=⟨w.heap.size + 1,0,none⟩) (by dsimp only;omega) (.int .i64 c0)).setCell (p:=⟨w.heap.size + 1,1,none⟩) (by dsimp only;omega) (.int .i64 c1)).setCell (p:=⟨w.heap.size + 1,2,none⟩) (by dsimp only;omega) (.int .i64 c2)).setCell (p:=⟨w.heap.size + 1,3,none⟩) (by dsimp only;omega) (.int .i64 c3)).setCell (p:=⟨w.heap.size + 1,4,none⟩) (by dsimp only;omega) (.slice b1 n1 b3)).setCell (p:=⟨w.heap.size + 1,5,none⟩) (by dsimp only;omega) (.slice b2 n2 b4))
   have HXT:=qH (own_other (own_other (own_other (own_other (own_other (own_other (own_mono P11T (show w.heap.size <= w.heap.size + 2 by omega)) (b:=w.heap.size + 1) (fun q hq => by have:=(P11T.lt q hq).1;omega) ⟨w.heap.size + 1,0,none⟩ (.int .i64 c0) rfl) (b:=w.heap.size + 1) (fun q hq => by have:=(P11T.lt q hq).1;omega) ⟨w.heap.size + 1,1,none⟩ (.int .i64 c1) rfl) (b:=w.heap.size + 1) (fun q hq => by have:=(P11T.lt q hq).1;omega) ⟨w.heap.size + 1,2,none⟩ (.int .i64 c2) rfl) (b:=w.heap.size + 1) (fun q hq => by have:=(P11T.lt q hq).1;omega) ⟨w.heap.size + 1,3,none⟩ (.int .i64 c3) rfl) (b:=w.heap.size + 1) (fun q hq => by have:=(P11T.lt q hq).1;omega) ⟨w.heap.size + 1,4,none⟩ (.slice b1 n1 b3) rfl) (b:=w.heap.size + 1) (fun q hq => by have:=(P11T.lt q hq).1;omega) ⟨w.heap.size + 1,5,none⟩ (.slice b2 n2 b4) rfl)
   have HXI:=qH (own_other (own_other (own_other (own_other (own_other (own_other (own_mono O11 (show w.heap.size <= w.heap.size + 2 by omega)) (b:=w.heap.size + 1) (fun q hq => by have:=(O11.lt q hq).1;omega) ⟨w.heap.size + 1,0,none⟩ (.int .i64 c0) rfl) (b:=w.heap.size + 1) (fun q hq => by have:=(O11.lt q hq).1;omega) ⟨w.heap.size + 1,1,none⟩ (.int .i64 c1) rfl) (b:=w.heap.size + 1) (fun q hq => by have:=(O11.lt q hq).1;omega) ⟨w.heap.size + 1,2,none⟩ (.int .i64 c2) rfl) (b:=w.heap.size + 1) (fun q hq => by have:=(O11.lt q hq).1;omega) ⟨w.heap.size + 1,3,none⟩ (.int .i64 c3) rfl) (b:=w.heap.size + 1) (fun q hq => by have:=(O11.lt q hq).1;omega) ⟨w.heap.size + 1,4,none⟩ (.slice b1 n1 b3) rfl) (b:=w.heap.size + 1) (fun q hq => by have:=(O11.lt q hq).1;omega) ⟨w.heap.size + 1,5,none⟩ (.slice b2 n2 b4) rfl)
   generalize ((((((u11.setCell ⟨w.heap.size + 1,0,none⟩ (.int .i64 c0)).setCell ⟨w.heap.size + 1,1,none⟩ (.int .i64 c1)).setCell ⟨w.heap.size + 1,2,none⟩ (.int .i64 c2)).setCell ⟨w.heap.size + 1,3,none⟩ (.int .i64 c3)).setCell ⟨w.heap.size + 1,4,none⟩ (.slice b1 n1 b3)).setCell ⟨w.heap.size + 1,5,none⟩ (.slice b2 n2 b4)) = X at *
   have g0:=hX.cell 0 _ rfl
   have g1:=hX.cell 1 _ rfl
   have g2:=hX.cell 2 _ rfl
   have g3:=hX.cell 3 _ rfl
   have g4:=hX.cell 4 _ rfl
   have g5:=hX.cell 5 _ rfl
   clear hX x0 f0 x1 f1 x2 f2 x3 f3 x4 f4 x5 f5
   go_wp2_with fail
   exact bodyPost_ret (v:=.agg #[.int .i64 c0,.int .i64 c1,.int .i64 c2,.int .i64 c3,.slice b1 n1 b3,.slice b2 n2 b4]) (by simp [results,Tryz.results84,go_sem,g0,g1,g2,g3,g4,g5]) rfl ⟨b1,n1,b3,b2,n2,b4,rfl,⟨HXT.out,HXI.out⟩,HXB.out⟩
end Go.Proofs.YtbgoldeopmlbnaaGreatDoor
