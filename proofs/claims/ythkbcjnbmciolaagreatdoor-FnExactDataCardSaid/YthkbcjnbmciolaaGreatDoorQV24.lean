/- Used by the law. -/
import Derived.Test.YthkbcjnbmciolaaGreatDoorQV23
set_option maxRecDepth 100000
set_option maxHeartbeats 16000000
namespace Go.Proofs.YthkbcjnbmciolaaGreatDoor
open Go.RowKit Go.PlainAid G IRow
set_option linter.unusedVariables false
def zeroK (b : Bk) : Bool:=zeroB b.c0 b.c1 b.c2 b.c3 b.ts.length b.is.length
def doS (b : Bk) (d : Dd) : Bk × Int :=
 if d.kd = 1 then (⟨d.gn,d.nd,d.mn,d.ck,if zeroK b = true then [⟨1,⟨#[120]⟩⟩] else b.ts,b.is⟩,0)
 else if zeroK b = true then (bk0,10)
 else if d.kd = 2 then (if (b.ts.length : Int) + 1 < d.no then (bk0,6) else if d.no = (b.ts.length : Int) + 1 then (⟨b.c0,b.c1,b.c2,b.c3,b.ts ++ [⟨d.no,d.lk⟩],b.is⟩,0) else (⟨b.c0,b.c1,b.c2,b.c3,b.ts.set (d.no.toNat - 1) ⟨d.no,d.lk⟩,b.is⟩,0))
 else itemsR b d
theorem neq_conf (g n m c : Int) (W : World) : (binOp .neq 39 (.agg #[.int .i64 g,.int .i64 n,.int .i64 m,.int .i64 c]) (.agg #[.int .i64 0,.int .i64 0,.int .i64 0,.int .i64 0])).run Tryz.prog W = .ok (.bool (!(decide (g = 0 /\ n = 0 /\ m = 0 /\ c = 0)))) W:=by
 by_cases h1 : g = 0 <;> by_cases h2 : n = 0 <;> by_cases h3 : m = 0 <;> by_cases h4 : c = 0 <;> simp [go_sem,h1,h2,h3,h4]
theorem nil_do1 (a b c d : Int) (w : World) : (nilAhead 407 213 (.agg #[.int .i64 a, .int .i64 b, .int .i64 c, .int .i64 d]) "loop.example/g00839/impl.do").run Tryz.prog w = .ok (some false) w := by kernel_rfl
theorem met_do1 (a b c d : Int) (w : World) : (method 407 213 (.agg #[.int .i64 a, .int .i64 b, .int .i64 c, .int .i64 d]) "loop.example/g00839/impl.do").run Tryz.prog w = .ok (212, .agg #[.int .i64 a, .int .i64 b, .int .i64 c, .int .i64 d]) w := by kernel_rfl
theorem nil_do2 (a : Int) (b : ByteArray) (w : World) : (nilAhead 407 219 (.agg #[.int .i64 a, .string b]) "loop.example/g00839/impl.do").run Tryz.prog w = .ok (some false) w := by kernel_rfl
theorem met_do2 (a : Int) (b : ByteArray) (w : World) : (method 407 219 (.agg #[.int .i64 a, .string b]) "loop.example/g00839/impl.do").run Tryz.prog w = .ok (217, .agg #[.int .i64 a, .string b]) w := by kernel_rfl
theorem nil_do3 (a : ByteArray) (b : Int) (c : ByteArray) (w : World) : (nilAhead 407 220 (.agg #[.string a, .int .i64 b, .string c]) "loop.example/g00839/impl.do").run Tryz.prog w = .ok (some false) w := by kernel_rfl
theorem met_do3 (a : ByteArray) (b : Int) (c : ByteArray) (w : World) : (method 407 220 (.agg #[.string a, .int .i64 b, .string c]) "loop.example/g00839/impl.do").run Tryz.prog w = .ok (222, .agg #[.string a, .int .i64 b, .string c]) w := by kernel_rfl
theorem nil_do4 (a : ByteArray) (w : World) : (nilAhead 407 221 (.string a) "loop.example/g00839/impl.do").run Tryz.prog w = .ok (some false) w := by kernel_rfl
theorem met_do4 (a : ByteArray) (w : World) : (method 407 221 (.string a) "loop.example/g00839/impl.do").run Tryz.prog w = .ok (229, .string a) w := by kernel_rfl
theorem deedB_cases {q0 q1 q2 q3 q4 q5 : Int} {q6 q7 : ByteArray} {q8 : Int} {q9 : ByteArray} (h : deedB q0 q1 q2 q3 q4 q5 q6 q7 q8 q9 = true) : (q0 = 1 /\ (1 <= q1 /\ q1 <= 999) /\ (1 <= q2 /\ q2 <= 10) /\ (q2 <= q3 /\ q3 <= 20) /\ (0 <= q4 /\ q4 <= 4294967295)) ∨ (q0 = 2 /\ (1 <= q5 /\ q5 <= 5) /\ (1 <= q6.size /\ q6.size <= 16)) ∨ (q0 = 3 /\ (1 <= q7.size /\ q7.size <= 8) /\ (1 <= q8 /\ q8 <= 5) /\ (1 <= q9.size /\ q9.size <= 20)) ∨ (q0 = 4 /\ (1 <= q7.size /\ q7.size <= 8)):=by
 unfold deedB at h
 by_cases k1 : q0 = 1
 · rw [if_pos k1] at h
   simp only [Bool.and_eq_true] at h
   exact .inl ⟨k1,confB_iff.1 h.1.1⟩
 · rw [if_neg k1] at h
   by_cases k2 : q0 = 2
   · rw [if_pos k2] at h
     simp only [Bool.and_eq_true] at h
     exact .inr (.inl ⟨k2,termB_iff.1 h.1.2⟩)
   · rw [if_neg k2] at h
     by_cases k3 : q0 = 3
     · rw [if_pos k3] at h
       simp only [Bool.and_eq_true] at h
       obtain ⟨h1,h2,h3⟩:=itemB_iff.1 h.2
       exact .inr (.inr (.inl ⟨k3,wordB_size h1,h2,h3⟩))
     · rw [if_neg k3] at h
       by_cases k4 : q0 = 4
       · rw [if_pos k4] at h
         simp only [Bool.and_eq_true] at h
         exact .inr (.inr (.inr ⟨k4,wordB_size h.2⟩))
       · rw [if_neg k4] at h
         cases h
theorem deed_do {q0 q1 q2 q3 q4 q5 : Int} {q6 q7 : ByteArray} {q8 : Int} {q9 : ByteArray} {base B M : Nat} {v : Value} {b : Bk} (hB : deedB q0 q1 q2 q3 q4 q5 q6 q7 q8 q9 = true) (hz : zeroK b = false) (ht : b.ts.length <= 5) (hi : b.is.length <= 8) :
 ∃ (T : TypeId) (x : Value) (F : FuncId),(∀ u,Calls Tryz.prog 136 #[.agg #[.int .i64 q0,.int .i64 q1,.int .i64 q2,.int .i64 q3,.int .i64 q4,.int .i64 q5,.string q6,.string q7,.int .i64 q8,.string q9]] u fun e w' => e = .returned (.iface T x) /\ Below u.heap.size u w') ∧
  (∀ u, (nilAhead 407 T x "loop.example/g00839/impl.do").run Tryz.prog u = .ok (some false) u) /\ (∀ u, (method 407 T x "loop.example/g00839/impl.do").run Tryz.prog u = .ok (F, x) u) /\ (∀ u y, (callFunc F #[x, y]).run Tryz.prog u = .ok (.enter F #[x, y]) u) ∧
  (∀ u,Dr u base B M v b -> base <= u.heap.size -> Calls Tryz.prog F #[x,.pointer (some ⟨B,0,none⟩)] u fun e w' => e = .returned (.int .i64 (doS b ⟨q0,q1,q2,q3,q4,q5,q6,q7,q8,q9⟩).2) /\ Below base u w' /\ ((doS b ⟨q0,q1,q2,q3,q4,q5,q6,q7,q8,q9⟩).2 = 0 -> ∃ v',Dr w' base B M v' (doS b ⟨q0,q1,q2,q3,q4,q5,q6,q7,q8,q9⟩).1)):=by
 rcases deedB_cases hB with ⟨rfl,_⟩ | ⟨rfl,h5,h6⟩ | ⟨rfl,h7,h8,h9⟩ | ⟨rfl,h7⟩
 · refine ⟨_,_,_,fun u => deedOf1_any 1 q1 q2 q3 q4 q5 q6 q7 q8 q9 rfl u,fun u => nil_do1 q1 q2 q3 q4 u,fun u => met_do1 q1 q2 q3 q4 u,fun u y => by kernel_rfl,fun u hD hs => (confDo_any q1 q2 q3 q4 hD hs).mono ?_⟩
   rintro e w' ⟨rfl,hD2,hb⟩
   have hd : doS b ⟨1,q1,q2,q3,q4,q5,q6,q7,q8,q9⟩ = (⟨q1,q2,q3,q4,b.ts,b.is⟩,0):=by unfold doS;rw [if_pos rfl,hz];rfl
   rw [hd]
   exact ⟨rfl,hb,fun _ => ⟨_,hD2⟩⟩
 · refine ⟨_,_,_,fun u => deedOf2_any 2 q1 q2 q3 q4 q5 q6 q7 q8 q9 rfl u,fun u => nil_do2 q5 q6 u,fun u => met_do2 q5 q6 u,fun u y => by kernel_rfl,fun u hD hs => ?_⟩
   have hd : doS b ⟨2,q1,q2,q3,q4,q5,q6,q7,q8,q9⟩ = (if (b.ts.length : Int) + 1 < q5 then (bk0,6) else if q5 = (b.ts.length : Int) + 1 then (⟨b.c0,b.c1,b.c2,b.c3,b.ts ++ [⟨q5,q6⟩],b.is⟩,0) else (⟨b.c0,b.c1,b.c2,b.c3,b.ts.set (q5.toNat - 1) ⟨q5,q6⟩,b.is⟩,0)):=by
    unfold doS;dsimp only;rw [if_neg (by decide),hz,if_neg (by decide),if_pos rfl]
   rw [hd]
   by_cases c1 : (b.ts.length : Int) + 1 < q5
   · rw [if_pos c1]
     refine (termDo_none q5 q6 hD hs ht c1).mono ?_
     rintro e w' ⟨rfl,hb⟩
     exact ⟨rfl,hb,fun h => by cases h⟩
   · rw [if_neg c1]
     by_cases c2 : q5 = (b.ts.length : Int) + 1
     · rw [if_pos c2]
       refine (termDo_next q5 q6 hD hs ht c2).mono ?_
       rintro e w' ⟨rfl,v',hD2,hb⟩
       exact ⟨rfl,hb,fun _ => ⟨v',hD2⟩⟩
     · rw [if_neg c2]
       refine (termDo_old q5 q6 hD hs ht (q5.toNat - 1) (by omega) (by omega)).mono ?_
       rintro e w' ⟨rfl,hD2,hb⟩
       exact ⟨rfl,hb,fun _ => ⟨_,hD2⟩⟩
 · refine ⟨_,_,_,fun u => deedOf3_any 3 q1 q2 q3 q4 q5 q6 q7 q8 q9 rfl u,fun u => nil_do3 q7 q8 q9 u,fun u => met_do3 q7 q8 q9 u,fun u y => by kernel_rfl,fun u hD hs => ?_⟩
   have hd : doS b ⟨3,q1,q2,q3,q4,q5,q6,q7,q8,q9⟩ = itemsR b ⟨3,q1,q2,q3,q4,q5,q6,q7,q8,q9⟩:=by
    unfold doS;dsimp only;rw [if_neg (by decide),hz,if_neg (by decide),if_neg (by decide)]
   rw [hd]
   have hqm : q7.size <= maxLen:=by unfold maxLen;omega
   unfold itemsR
   dsimp only
   by_cases c1 : (b.ts.length : Int) < q8
   · rw [if_pos ⟨rfl,c1⟩]
     refine (putDo_none q7 q8 q9 hD hs hqm ht hi c1).mono ?_
     rintro e w' ⟨rfl,hb⟩
     exact ⟨rfl,hb,fun h => by cases h⟩
   · rw [if_neg (fun h => c1 h.2)]
     have hit : itemsL b.is ⟨3,q1,q2,q3,q4,q5,q6,q7,q8,q9⟩ = genI [⟨q7,q8,q9⟩] q7 b.is:=by rw [items_gen];rfl
     cases c2 : hasI b.is q7
     · by_cases c3 : 8 <= b.is.length
       · rw [if_pos ⟨rfl,rfl,c3⟩]
         refine (putDo_full q7 q8 q9 hD hs hqm ht hi c1 c2 c3).mono ?_
         rintro e w' ⟨rfl,hb⟩
         exact ⟨rfl,hb,fun h => by cases h⟩
       · rw [if_neg (fun h => c3 h.2.2),if_neg (fun h => by have:=h.1;omega),hit]
         refine (putDo_new q7 q8 q9 hD hs hqm ht hi c1 c2 c3).mono ?_
         rintro e w' ⟨rfl,hD2,hb⟩
         exact ⟨rfl,hb,fun _ => ⟨_,hD2⟩⟩
     · rw [if_neg (fun h => by cases h.2.1),if_neg (fun h => by have:=h.1;omega),hit]
       refine (putDo_old q7 q8 q9 hD hs hqm ht hi c1 c2).mono ?_
       rintro e w' ⟨rfl,hD2,hb⟩
       exact ⟨rfl,hb,fun _ => ⟨_,hD2⟩⟩
 · refine ⟨_,_,_,fun u => deedOf4_any 4 q1 q2 q3 q4 q5 q6 q7 q8 q9 rfl u,fun u => nil_do4 q7 u,fun u => met_do4 q7 u,fun u y => by kernel_rfl,fun u hD hs => ?_⟩
   have hd : doS b ⟨4,q1,q2,q3,q4,q5,q6,q7,q8,q9⟩ = itemsR b ⟨4,q1,q2,q3,q4,q5,q6,q7,q8,q9⟩:=by
    unfold doS;dsimp only;rw [if_neg (by decide),hz,if_neg (by decide),if_neg (by decide)]
   rw [hd]
   have hqm : q7.size <= maxLen:=by unfold maxLen;omega
   unfold itemsR
   dsimp only
   rw [if_neg (fun h => by have:=h.1;omega),if_neg (fun h => by have:=h.1;omega)]
   have hit : itemsL b.is ⟨4,q1,q2,q3,q4,q5,q6,q7,q8,q9⟩ = genI [] q7 b.is:=by rw [items_gen];rfl
   cases c2 : hasI b.is q7
   · rw [if_pos ⟨rfl,rfl⟩]
     refine (delDo_no q7 hD hs hqm c2).mono ?_
     rintro e w' ⟨rfl,hb⟩
     exact ⟨rfl,hb,fun h => by cases h⟩
   · rw [if_neg (fun h => by cases h.2),hit]
     refine (delDo_yes q7 hD hs hqm c2).mono ?_
     rintro e w' ⟨rfl,hD2,hb⟩
     exact ⟨rfl,hb,fun _ => ⟨_,hD2⟩⟩
theorem draftDo_any (q0 q1 q2 q3 q4 q5 : Int) (q6 q7 : ByteArray) (q8 : Int) (q9 : ByteArray) {w : World} {base B M : Nat} {v : Value} {b : Bk} (h : Dr w base B M v b) (hbs : base <= w.heap.size) (hB : deedB q0 q1 q2 q3 q4 q5 q6 q7 q8 q9 = true) (hzc : zeroK b = decide (b.c0 = 0 /\ b.c1 = 0 /\ b.c2 = 0 /\ b.c3 = 0)) (ht : b.ts.length <= 5) (hi : b.is.length <= 8) :
 Calls Tryz.prog 132 #[.pointer (some ⟨B,0,none⟩),.agg #[.int .i64 q0,.int .i64 q1,.int .i64 q2,.int .i64 q3,.int .i64 q4,.int .i64 q5,.string q6,.string q7,.int .i64 q8,.string q9]] w fun e w' => e = .returned (.int .i64 (doS b ⟨q0,q1,q2,q3,q4,q5,q6,q7,q8,q9⟩).2) /\ Below base w w' /\ ((doS b ⟨q0,q1,q2,q3,q4,q5,q6,q7,q8,q9⟩).2 = 0 -> ∃ v',Dr w' base B M v' (doS b ⟨q0,q1,q2,q3,q4,q5,q6,q7,q8,q9⟩).1):=by
 obtain ⟨V,hV⟩ : ∃ V,V = w.alloc (.cells #[.int .i64 q0,.int .i64 q1,.int .i64 q2,.int .i64 q3,.int .i64 q4,.int .i64 q5,.string q6,.string q7,.int .i64 q8,.string q9] 145):=⟨_,rfl⟩
 have HBB : Hid (Below base w V):=qH (by rw [hV];exact (Below.refl _ _).alloc hbs _)
 have HX : Hid (BoxC V w.heap.size [.int .i64 q0,.int .i64 q1,.int .i64 q2,.int .i64 q3,.int .i64 q4,.int .i64 q5,.string q6,.string q7,.int .i64 q8,.string q9]):=qH (by rw [hV];exact BoxC.made _ _ _)
 have HD : Hid (Dr V base B M v b):=qH (by rw [hV];exact h.below ((Below.refl _ _).alloc (Nat.le_refl _) _))
 have HBV : Hid (base <= V.heap.size):=qH (Nat.le_trans hbs HBB.out.size)
 clear h
 have hne:=neq_conf b.c0 b.c1 b.c2 b.c3
 rw [<- hzc] at hne
 have x0:=HD.out.box.cell 0 _ rfl
 have x1:=HD.out.box.cell 1 _ rfl
 have x2:=HD.out.box.cell 2 _ rfl
 have x3:=HD.out.box.cell 3 _ rfl
 clear hzc
 go_enter Tryz.func132,Tryz.ntmps132
 go_upto_region 1 with fail
 rw [<- hV]
 clear hV
 cases hz : zeroK b
 · rw [hz] at hne
   obtain ⟨T,x,F,hdo,hnl,hme,hcf,hF⟩:=deed_do (base:=base) (B:=B) (M:=M) (v:=v) hB hz ht hi
   have HDO:=qH hdo
   have HF:=qH hF
   clear hdo hF
   have d0:=HX.out.cell 0 _ rfl
   have d1:=HX.out.cell 1 _ rfl
   have d2:=HX.out.cell 2 _ rfl
   have d3:=HX.out.cell 3 _ rfl
   have d4:=HX.out.cell 4 _ rfl
   have d5:=HX.out.cell 5 _ rfl
   have d6:=HX.out.cell 6 _ rfl
   have d7:=HX.out.cell 7 _ rfl
   have d8:=HX.out.cell 8 _ rfl
   have d9:=HX.out.cell 9 _ rfl
   go_wp2_with fail
   refine (HDO.out _).mono ?_
   rintro e w1 ⟨rfl,hb⟩
   have HD1:=qH (HD.out.below hb)
   have HBB1:=qH (HBB.out.trans (hb.mono HBV.out))
   have HBV1:=qH (Nat.le_trans HBV.out hb.size)
   clear hb x0 x1 x2 x3 d0 d1 d2 d3 d4 d5 d6 d7 d8 d9
   go_wp2_with fail
   refine (HF.out _ HD1.out HBV1.out).mono ?_
   rintro e w2 ⟨rfl,hp⟩
   have HP:=qH hp
   clear hp
   go_wp2_with fail
   go_ret
   exact ⟨rfl,HBB1.out.trans HP.out.1,HP.out.2⟩
 · rw [hz] at hne
   have d0:=HX.out.cell 0 _ rfl
   by_cases k1 : q0 = 1
   · subst k1
     have hd : doS b ⟨1,q1,q2,q3,q4,q5,q6,q7,q8,q9⟩ = (⟨q1,q2,q3,q4,[⟨1,⟨#[120]⟩⟩],b.is⟩,0):=by unfold doS;rw [if_pos rfl,hz];rfl
     have HDD:=qH hd
     clear hd
     have d1:=HX.out.cell 1 _ rfl
     have d2:=HX.out.cell 2 _ rfl
     have d3:=HX.out.cell 3 _ rfl
     have d4:=HX.out.cell 4 _ rfl
     have d5:=HX.out.cell 5 _ rfl
     have d6:=HX.out.cell 6 _ rfl
     have d7:=HX.out.cell 7 _ rfl
     have d8:=HX.out.cell 8 _ rfl
     have d9:=HX.out.cell 9 _ rfl
     go_wp2_with fail
     refine (deedOf1_any 1 q1 q2 q3 q4 q5 q6 q7 q8 q9 rfl _).mono ?_
     rintro e w1 ⟨rfl,hb⟩
     have HD1:=qH (HD.out.below hb)
     have HBB1:=qH (HBB.out.trans (hb.mono HBV.out))
     have HBV1:=qH (Nat.le_trans HBV.out hb.size)
     clear hb x0 x1 x2 x3 d0 d1 d2 d3 d4 d5 d6 d7 d8 d9
     have hta : ∀ u : World,(Instr.typeAssert (.iface 213 (.agg #[.int .i64 q1,.int .i64 q2,.int .i64 q3,.int .i64 q4])) 189 213 false).run Tryz.prog u = .ok (.agg #[.int .i64 q1,.int .i64 q2,.int .i64 q3,.int .i64 q4]) u:=fun u => by kernel_rfl
     go_wp2_with fail
     refine (begin_any q1 q2 q3 q4 HD1.out HBV1.out).mono ?_
     rintro e w2 ⟨rfl,v',hD2,hb2⟩
     have HD2:=qH hD2
     have HB2:=qH (HBB1.out.trans hb2)
     clear hD2 hb2
     go_wp2_with fail
     go_ret
     rw [HDD.out]
     exact ⟨rfl,HB2.out,fun _ => ⟨v',HD2.out⟩⟩
   · have hd : doS b ⟨q0,q1,q2,q3,q4,q5,q6,q7,q8,q9⟩ = (bk0,10):=by unfold doS;rw [if_neg k1,if_pos hz]
     have k2 : (q0 != 1) = true:=by simpa using k1
     have HDD:=qH hd
     clear hd
     go_wp2_with fail
     go_ret
     exact ⟨by rw [HDD.out];rfl,HBB.out,fun h => by rw [HDD.out] at h;cases h⟩
structure RightB (b : Bk) : Prop where
 conf : confB b.c0 b.c1 b.c2 b.c3 = true
 len : 1 <= b.ts.length /\ b.ts.length <= 5
 many : b.is.length <= 8
 term : ∀ i,i < b.ts.length -> termB (b.ts.getD i tmD).no (b.ts.getD i tmD).lk = true /\ (b.ts.getD i tmD).no = (i : Int) + 1
 item : ∀ x ∈ b.is,itemB x.nm x.tm x.bd = true /\ x.tm <= (b.ts.length : Int)
 rise : RiseI b.is
theorem zeroK_iff {b : Bk} : zeroK b = true ↔ (b.c0 = 0 /\ b.c1 = 0 /\ b.c2 = 0 /\ b.c3 = 0) /\ b.ts = [] /\ b.is = []:=by
 unfold zeroK zeroB
 rw [Bool.and_eq_true,Bool.and_eq_true,decide_eq_true_eq,decide_eq_true_eq,decide_eq_true_eq,List.length_eq_zero_iff,List.length_eq_zero_iff,and_assoc]
theorem bookB_of {b : Bk} (h : bookB b = true) : zeroK b = true ∨ RightB b:=by
 unfold bookB at h
 rw [Bool.or_eq_true] at h
 rcases h with h | h
 · exact .inl h
 · refine .inr ?_
   simp only [Bool.and_eq_true,decide_eq_true_eq] at h
   obtain ⟨⟨⟨⟨h1,h2⟩,h3⟩,h4⟩,h5⟩:=h
   refine ⟨h1,h2,h3,fun i hi => ?_,fun x hx => ?_,rise_of h5⟩
   · have:=allTo'_iff.1 h4 i hi
     unfold tAt at this
     rw [Bool.and_eq_true,decide_eq_true_eq] at this
     exact this
   · obtain ⟨i,hi,rfl⟩:=List.mem_iff_getElem.1 hx
     have:=allTo'_iff.1 h5 i hi
     unfold iAt at this
     rw [Bool.and_eq_true,Bool.and_eq_true,decide_eq_true_eq] at this
     have e : b.is.getD i imD = b.is[i]:=by simp [List.getD,List.getElem?_eq_getElem hi]
     rw [e] at this
     exact this.1
theorem bookB_right {b : Bk} (h : RightB b) : bookB b = true:=by
 unfold bookB
 rw [Bool.or_eq_true]
 refine .inr ?_
 simp only [Bool.and_eq_true,decide_eq_true_eq]
 refine ⟨⟨⟨⟨h.conf,h.len⟩,h.many⟩,allTo'_iff.2 fun i hi => ?_⟩,allTo'_iff.2 fun i hi => ?_⟩
 · unfold tAt
   rw [Bool.and_eq_true,decide_eq_true_eq]
   exact h.term i hi
 · unfold iAt
   have e : b.is.getD i imD = b.is[i]:=by simp [List.getD,List.getElem?_eq_getElem hi]
   rw [Bool.and_eq_true,Bool.and_eq_true,decide_eq_true_eq,e]
   refine ⟨h.item _ (List.getElem_mem hi),?_⟩
   rw [Bool.or_eq_true,decide_eq_true_eq]
   by_cases h0 : i = 0
   · exact .inl h0
   · refine .inr ?_
     have hj : i - 1 < b.is.length:=by omega
     have e2 : b.is.getD (i - 1) imD = b.is[i - 1]:=by simp [List.getD,List.getElem?_eq_getElem hj]
     rw [e2]
     exact List.pairwise_iff_getElem.1 h.rise (i - 1) i hj hi (by omega)
theorem RightB.notZero {b : Bk} (h : RightB b) : zeroK b = false:=by
 cases hz : zeroK b
 · rfl
 · have:=(zeroK_iff.1 hz).2.1
   have h2:=h.len.1
   rw [this] at h2
   simp at h2
theorem conf_zero {b : Bk} (h : bookB b = true) : zeroK b = decide (b.c0 = 0 /\ b.c1 = 0 /\ b.c2 = 0 /\ b.c3 = 0):=by
 rcases bookB_of h with hz | hr
 · rw [hz,decide_eq_true (zeroK_iff.1 hz).1]
 · rw [hr.notZero,decide_eq_false (fun e => by have:=(confB_iff.1 hr.conf).1.1;omega)]
theorem gen_length_put {x : Im} : ∀ {is : List Im},RiseI is -> (genI [x] x.nm is).length = if hasI is x.nm = true then is.length else is.length + 1
 | [],_ => by simp [genI,hasI]
 | y :: r,h => by
  obtain ⟨h0,hr⟩:=List.pairwise_cons.1 h
  rw [hasI_cons]
  unfold genI
  by_cases h1 : ltS y.nm x.nm = true
  · rw [if_pos h1,if_pos h1,List.length_cons,gen_length_put hr]
    split <;> simp
  · rw [if_neg h1,if_neg h1]
    by_cases h2 : y.nm = x.nm
    · rw [if_pos h2,if_pos (decide_eq_true h2)];simp
    · rw [if_neg h2,if_neg (by rw [decide_eq_false h2];decide)];simp
theorem gen_length_del {nm : ByteArray} : ∀ {is : List Im},(genI [] nm is).length <= is.length
 | [] => by simp [genI]
 | y :: r => by
  unfold genI
  split
  · have:=gen_length_del (nm:=nm) (is:=r);simp only [List.length_cons];omega
  · split <;> simp
theorem doS_right {b : Bk} {d : Dd} (hb : bookB b = true) (hd : deedOf d = true) (hc : (doS b d).2 = 0) : RightB (doS b d).1:=by
 obtain ⟨q0,q1,q2,q3,q4,q5,q6,q7,q8,q9⟩:=d
 have hB : deedB q0 q1 q2 q3 q4 q5 q6 q7 q8 q9 = true:=hd
 by_cases k1 : q0 = 1
 · subst k1
   have hcf : confB q1 q2 q3 q4 = true:=by
    unfold deedB at hB
    rw [if_pos rfl,Bool.and_eq_true,Bool.and_eq_true] at hB
    exact hB.1.1
   unfold doS
   rw [if_pos rfl]
   dsimp only
   rcases bookB_of hb with hz | hr
   · rw [hz,if_pos rfl]
     have hi:=(zeroK_iff.1 hz).2.2
     rw [hi]
     refine ⟨hcf,by simp,by simp,fun i hi => ?_,fun x hx => (by cases hx),List.Pairwise.nil⟩
     have h0 : i = 0:=by simp at hi;omega
     subst h0
     exact ⟨by rfl,by simp⟩
   · rw [hr.notZero,if_neg (by decide)]
     exact ⟨hcf,hr.len,hr.many,hr.term,hr.item,hr.rise⟩
 · have hz : zeroK b = false:=by
    cases hz : zeroK b
    · rfl
    · unfold doS at hc
      rw [if_neg k1,if_pos hz] at hc
      cases hc
   have hr:=(bookB_of hb).resolve_left (by rw [hz];decide)
   unfold doS at hc ⊢
   rw [if_neg k1,if_neg (by rw [hz];decide)] at hc ⊢
   by_cases k2 : q0 = 2
   · subst k2
     have htm : termB q5 q6 = true:=by
      unfold deedB at hB
      rw [if_neg (by decide),if_pos rfl,Bool.and_eq_true,Bool.and_eq_true] at hB
      exact hB.1.2
     have hno:=(termB_iff.1 htm).1
     rw [if_pos rfl] at hc ⊢
     dsimp only at hc ⊢
     by_cases c1 : (b.ts.length : Int) + 1 < q5
     · rw [if_pos c1] at hc;cases hc
     · rw [if_neg c1]
       by_cases c2 : q5 = (b.ts.length : Int) + 1
       · rw [if_pos c2]
         refine ⟨hr.conf,by simp;omega,hr.many,fun i hi => ?_,fun x hx => ?_,hr.rise⟩
         · rcases Nat.lt_or_ge i b.ts.length with h | h
           · have e : (b.ts ++ [(⟨q5,q6⟩ : Tm)]).getD i tmD = b.ts.getD i tmD:=by simp [List.getD,List.getElem?_append_left h]
             rw [e];exact hr.term i h
           · have h2 : i = b.ts.length:=by simp at hi;omega
             have e : (b.ts ++ [(⟨q5,q6⟩ : Tm)]).getD i tmD = ⟨q5,q6⟩:=by simp [List.getD,h2]
             rw [e];exact ⟨htm,by dsimp only;omega⟩
         · have:=hr.item x hx
           exact ⟨this.1,by simp;omega⟩
       · rw [if_neg c2]
         have hlt : q5.toNat - 1 < b.ts.length:=by omega
         refine ⟨hr.conf,by simp;exact hr.len,hr.many,fun i hi => ?_,fun x hx => ?_,hr.rise⟩
         · have hi2 : i < b.ts.length:=by simpa using hi
           by_cases h : q5.toNat - 1 = i
           · have e : (b.ts.set (q5.toNat - 1) (⟨q5,q6⟩ : Tm)).getD i tmD = ⟨q5,q6⟩:=by simp [List.getD,h,hi2]
             rw [e];exact ⟨htm,by dsimp only;omega⟩
           · have e : (b.ts.set (q5.toNat - 1) (⟨q5,q6⟩ : Tm)).getD i tmD = b.ts.getD i tmD:=by simp [List.getD,h]
             rw [e];exact hr.term i hi2
         · have:=hr.item x hx
           exact ⟨this.1,by simpa using this.2⟩
   · rw [if_neg k2] at hc ⊢
     unfold itemsR at hc ⊢
     by_cases c1 : (⟨q0,q1,q2,q3,q4,q5,q6,q7,q8,q9⟩ : Dd).kd = 3 /\ (b.ts.length : Int) < (⟨q0,q1,q2,q3,q4,q5,q6,q7,q8,q9⟩ : Dd).tm
     · rw [if_pos c1] at hc;cases hc
     · rw [if_neg c1] at hc ⊢
       by_cases c2 : (⟨q0,q1,q2,q3,q4,q5,q6,q7,q8,q9⟩ : Dd).kd = 3 /\ hasI b.is (⟨q0,q1,q2,q3,q4,q5,q6,q7,q8,q9⟩ : Dd).nm = false /\ 8 <= b.is.length
       · rw [if_pos c2] at hc;cases hc
       · rw [if_neg c2] at hc ⊢
         by_cases c3 : (⟨q0,q1,q2,q3,q4,q5,q6,q7,q8,q9⟩ : Dd).kd = 4 /\ hasI b.is (⟨q0,q1,q2,q3,q4,q5,q6,q7,q8,q9⟩ : Dd).nm = false
         · rw [if_pos c3] at hc;cases hc
         · rw [if_neg c3,items_gen]
           dsimp only at c1 c2 c3 ⊢
           by_cases k3 : q0 = 3
           · subst k3
             have hit : itemB q7 q8 q9 = true:=by
              unfold deedB at hB
              rw [if_neg (by decide),if_neg (by decide),if_pos rfl,Bool.and_eq_true] at hB
              exact hB.2
             rw [if_pos rfl]
             have hlen:=gen_length_put (x:=⟨q7,q8,q9⟩) hr.rise
             dsimp only at hlen
             refine ⟨hr.conf,hr.len,?_,hr.term,fun x hx => ?_,gen_rise (.inr ⟨_,rfl,rfl⟩) hr.rise⟩
             · show (genI [⟨q7,q8,q9⟩] q7 b.is).length <= 8
               rw [hlen]
               cases hh : hasI b.is q7
               · rw [if_neg (by decide)]
                 have:=hr.many
                 by_cases h8 : 8 <= b.is.length
                 · exact absurd ⟨rfl,hh,h8⟩ c2
                 · omega
               · rw [if_pos rfl];exact hr.many
             · rcases mem_gen hx with h | h
               · obtain rfl:=List.mem_singleton.1 h
                 refine ⟨hit,?_⟩
                 show q8 <= (b.ts.length : Int)
                 by_cases h8 : (b.ts.length : Int) < q8
                 · exact absurd ⟨rfl,h8⟩ c1
                 · omega
               · exact hr.item x h
           · rw [if_neg k3]
             refine ⟨hr.conf,hr.len,Nat.le_trans gen_length_del hr.many,hr.term,fun x hx => ?_,gen_rise (.inl rfl) hr.rise⟩
             rcases mem_gen hx with h | h
             · cases h
             · exact hr.item x h
def doAllS : Bk -> List Dd -> Bk × Int
 | b,[] => (b,0)
 | b,d :: r => if (doS b d).2 = 0 then doAllS (doS b d).1 r else (bk0,(doS b d).2)
theorem book_sizes {b : Bk} (h : bookB b = true) : b.ts.length <= 5 /\ b.is.length <= 8 /\ RiseI b.is /\ (∀ t,t < b.ts.length -> (b.ts.getD t tmD).lk.size <= 16) /\ (∀ t,t < b.is.length -> (b.is.getD t imD).nm.size <= 8 /\ (b.is.getD t imD).bd.size <= 20):=by
 rcases bookB_of h with hz | hr
 · obtain ⟨_,h1,h2⟩:=zeroK_iff.1 hz
   rw [h1,h2]
   exact ⟨by simp,by simp,List.Pairwise.nil,fun t ht => by simp at ht,fun t ht => by simp at ht⟩
 · refine ⟨hr.len.2,hr.many,hr.rise,fun t ht => (termB_iff.1 (hr.term t ht).1).2.2,fun t ht => ?_⟩
   have hm : b.is.getD t imD ∈ b.is:=by rw [List.getD,List.getElem?_eq_getElem ht];exact List.getElem_mem ht
   have:=itemB_iff.1 (hr.item _ hm).1
   exact ⟨(wordB_size this.1).2,this.2.2.2⟩
theorem boxc_low {x y : World} {n h : Nat} {cs : List Value} (hb : BoxC x h cs) (hxy : Below n x y) (hn : h < n) : BoxC y h cs :=
 ⟨Nat.lt_of_lt_of_le hb.lt hxy.size,fun j v hv => (hxy.cell (p:=⟨h,j,none⟩) hn).trans (hb.cell j v hv),fun j => (hxy.frozen (p:=⟨h,j,none⟩) hn).trans (hb.free j)⟩
theorem doneAll_any (b : Bk) (a1 a2 : Option Addr) (n1 n2 a3 a4 : Nat) (a : Option Addr) (n cap : Nat) (ds : List Dd) (w : World) (h : BkR w a1 n1 a3 a2 n2 a4 b.ts b.is) (hb : bookB b = true) (hr : DdR w a n cap ds) (hn : n <= 10) (hd : ∀ t,t < n -> deedOf (ds.getD t ddD) = true) :
 Calls Tryz.prog 100 #[.agg #[.int .i64 b.c0,.int .i64 b.c1,.int .i64 b.c2,.int .i64 b.c3,.slice a1 n1 a3,.slice a2 n2 a4],.slice a n cap] w (NewBookOut (doAllS b ds) w):=by
 have HR:=qH hr
 have HDS:=qH hd
 have HBB:=qH hb
 have hsz:=book_sizes hb
 have hl1 : b.ts.length = n1:=h.t.len
 have hl2 : b.is.length = n2:=h.i.len
 have HBK:=qH h
 clear hr hd hb h
 go_enter Tryz.func100,Tryz.ntmps100
 go_wp2_with fail
 obtain ⟨W,hW⟩ : ∃ W,W = (w.alloc (.cells #[.int .i64 b.c0,.int .i64 b.c1,.int .i64 b.c2,.int .i64 b.c3,.slice a1 n1 a3,.slice a2 n2 a4] 43)).alloc (.cells #[.int .i64 0,.int .i64 0,.int .i64 0,.int .i64 0,.slice none 0 0,.slice none 0 0,.int .i64 0] 142):=⟨_,rfl⟩
 have HB0 : Hid (Below w.heap.size w W):=qH (by rw [hW];exact ((Below.refl _ _).alloc (Nat.le_refl _) _).alloc (by simp) _)
 have HZ0 : Hid (BoxC W (w.heap.size + 1) [.int .i64 0,.int .i64 0,.int .i64 0,.int .i64 0,.slice none 0 0,.slice none 0 0,.int .i64 0]):=qH (by rw [hW];have:=BoxC.made (w.alloc (.cells #[.int .i64 b.c0,.int .i64 b.c1,.int .i64 b.c2,.int .i64 b.c3,.slice a1 n1 a3,.slice a2 n2 a4] 43)) #[.int .i64 0,.int .i64 0,.int .i64 0,.int .i64 0,.slice none 0 0,.slice none 0 0,.int .i64 0] 142;rwa [World.size_alloc] at this)
 rw [<- hW]
 clear hW
 refine (draftOf_any b a1 a2 n1 n2 a3 a4 _ (HBK.out.below HB0.out) (by omega) (by omega) hsz.2.2.1 (fun t ht => by have:=(hsz.2.2.2.2 t (by omega)).1;unfold maxLen;omega)).mono ?_
 rintro e w1 ⟨B,M,v,rfl,hD,hb⟩
 have HD1:=qH hD
 have HB1:=qH (HB0.out.trans (hb.mono HB0.out.size))
 have HWS : Hid (w.heap.size + 1 < W.heap.size):=qH HZ0.out.lt
 have HZ1:=qH (HZ0.out.below hb)
 have HW1 : Hid (W.heap.size <= w1.heap.size):=qH hb.size
 clear hD hb hsz
 go_wp2_with fail
 go_loopw [13] (fun i wr => ∃ (k : Nat) (b2 : Bk) (v2 : Value),k <= n /\ i = .int .i64 k /\ Hid (Dr wr W.heap.size B M v2 b2) /\ Hid (bookB b2 = true) /\ Hid (doAllS b ds = doAllS b2 (ds.drop k)) /\ Hid (Below w.heap.size w wr) /\ Hid (BoxC wr (w.heap.size + 1) [.int .i64 0,.int .i64 0,.int .i64 0,.int .i64 0,.slice none 0 0,.slice none 0 0,.int .i64 0]) /\ Hid (W.heap.size <= wr.heap.size)) (fun i _ => n - (intOf i).toNat)
 case atStart => exact ⟨0,b,v,Nat.zero_le _,rfl,HD1,HBB,qH (by rw [List.drop_zero]),HB1,HZ1,HW1⟩
 case round =>
  obtain ⟨k,b2,v2,hk,rfl,HD,HBR,HDO,HB,HZ,HSZ⟩:=hrel
  clear HD1 HBB HB1 HZ1 HW1
  have hsz:=book_sizes HBR.out
  have hlds : ds.length = n:=HR.out.len
  by_cases hlt : k < n
  · obtain ⟨g,o,rfl,hg,t0,t1,t2,t3,t4,t5,t6,t7,t8,t9⟩:=DdR.at (SR.below HR.out HB.out) hlt
    have hin : 0 <= (k : Int) /\ (k : Int) < (n : Int):=by omega
    have hrd:=HDS.out k hlt
    have HDP : Hid (ds.drop k = ds.getD k ddD :: ds.drop (k + 1)):=qH (by
     rw [show ds.getD k ddD = ds[k]'(by omega) by simp [List.getD,List.getElem?_eq_getElem (show k < ds.length by omega)]]
     exact List.drop_eq_getElem_cons (by omega))
    generalize ds.getD k ddD = d at *
    obtain ⟨q0,q1,q2,q3,q4,q5,q6,q7,q8,q9⟩:=d
    dsimp only at t0 t1 t2 t3 t4 t5 t6 t7 t8 t9
    obtain ⟨V,hV⟩ : ∃ V,V = wr.alloc (.cells #[.int .i64 q0,.int .i64 q1,.int .i64 q2,.int .i64 q3,.int .i64 q4,.int .i64 q5,.string q6,.string q7,.int .i64 q8,.string q9] 145):=⟨_,rfl⟩
    have HWV : Hid (Below wr.heap.size wr V):=qH (by rw [hV];exact (Below.refl _ _).alloc (Nat.le_refl _) _)
    go_wp2_with fail
    rw [<- hV]
    clear hV t0 t1 t2 t3 t4 t5 t6 t7 t8 t9
    refine (draftDo_any q0 q1 q2 q3 q4 q5 q6 q7 q8 q9 (HD.out.below HWV.out) (Nat.le_trans HSZ.out HWV.out.size) hrd (conf_zero HBR.out) hsz.1 hsz.2.1).mono ?_
    rintro e w5 ⟨rfl,hp⟩
    have HP:=qH hp
    have HDP2 : Hid (doAllS b ds = if (doS b2 ⟨q0,q1,q2,q3,q4,q5,q6,q7,q8,q9⟩).2 = 0 then doAllS (doS b2 ⟨q0,q1,q2,q3,q4,q5,q6,q7,q8,q9⟩).1 (ds.drop (k + 1)) else (bk0,(doS b2 ⟨q0,q1,q2,q3,q4,q5,q6,q7,q8,q9⟩).2)):=qH (by rw [HDO.out,HDP.out];rfl)
    have HRT:=qH (fun h0 => doS_right HBR.out (d:=⟨q0,q1,q2,q3,q4,q5,q6,q7,q8,q9⟩) hrd h0)
    have HLOW : Hid (∀ x y : World,Below W.heap.size x y -> BoxC x (w.heap.size + 1) [.int .i64 0,.int .i64 0,.int .i64 0,.int .i64 0,.slice none 0 0,.slice none 0 0,.int .i64 0] -> BoxC y (w.heap.size + 1) [.int .i64 0,.int .i64 0,.int .i64 0,.int .i64 0,.slice none 0 0,.slice none 0 0,.int .i64 0]):=qH (fun x y hxy hb => boxc_low hb hxy HWS.out)
    clear hp HDP HDO hrd hsz
    generalize doS b2 ⟨q0,q1,q2,q3,q4,q5,q6,q7,q8,q9⟩ = r at *
    obtain ⟨b3,cd⟩:=r
    dsimp only at HP HDP2 HRT ⊢
    by_cases hc : cd = 0
    · obtain ⟨v3,hD3⟩:=HP.out.2 hc
      have hb3:=HP.out.1
      have HD3:=qH hD3
      have HB3:=qH (HB.out.trans ((HWV.out.mono HB.out.size).trans (hb3.mono (Nat.le_trans (Nat.le_of_lt (Nat.lt_of_succ_lt HWS.out)) (Nat.le_refl _)))))
      have HZ3:=qH (HLOW.out _ _ hb3 (HZ.out.below HWV.out))
      have HS3:=qH (Nat.le_trans (Nat.le_trans HSZ.out HWV.out.size) hb3.size)
      have HR3:=qH (bookB_right (HRT.out hc))
      have HDN : Hid (doAllS b ds = doAllS b3 (ds.drop (k + 1))):=qH (by rw [HDP2.out,if_pos hc])
      have hc2 : (cd != 0) = false:=by rw [hc];rfl
      clear hD3 hb3 HP HDP2 HRT HLOW
      go_wp2_with fail
      go_roundw
      case rel => exact ⟨k + 1,b3,v3,by omega,by go_num,HD3,HR3,HDN,HB3,HZ3,HS3⟩
      case measure => simp [intOf];omega
    · have hc2 : (cd != 0) = true:=by simpa using hc
      have HN : Hid (doAllS b ds = (bk0,cd)):=qH (by rw [HDP2.out,if_neg hc])
      have hb3:=HP.out.1
      have HB3:=qH (HB.out.trans ((HWV.out.mono HB.out.size).trans (hb3.mono (Nat.le_trans (Nat.le_of_lt (Nat.lt_of_succ_lt HWS.out)) (Nat.le_refl _)))))
      have hz3:=HLOW.out _ _ hb3 (HZ.out.below HWV.out)
      clear hb3 HP HDP2 HRT HLOW
      have z0:=hz3.cell 0 _ rfl
      have f0:=hz3.free 0
      have z1:=hz3.cell 1 _ rfl
      have f1:=hz3.free 1
      have z2:=hz3.cell 2 _ rfl
      have f2:=hz3.free 2
      have z3:=hz3.cell 3 _ rfl
      have f3:=hz3.free 3
      have z4:=hz3.cell 4 _ rfl
      have f4:=hz3.free 4
      have z5:=hz3.cell 5 _ rfl
      have f5:=hz3.free 5
      have z6:=hz3.cell 6 _ rfl
      have f6:=hz3.free 6
      have hY:=(((((((hz3.set (j:=0) (by simp) (.int .i64 0)).set (j:=1) (by simp) (.int .i64 0)).set (j:=2) (by simp) (.int .i64 0)).set (j:=3) (by simp) (.int .i64 0)).set (j:=4) (by simp) (.slice none 0 0)).set (j:=5) (by simp) (.slice none 0 0)).set (j:=6) (by simp) (.int .i64 cd))
      have HYB:=qH (((((((HB3.out.setCell (p:=⟨w.heap.size + 1,0,none⟩) (by dsimp only;omega) (.int .i64 0)).setCell (p:=⟨w.heap.size + 1,1,none⟩) (by dsimp only;omega) (.int .i64 0)).setCell (p:=⟨w.heap.size + 1,2,none⟩) (by dsimp only;omega) (.int .i64 0)).setCell (p:=⟨w.heap.size + 1,3,none⟩) (by dsimp only;omega) (.int .i64 0)).setCell (p:=⟨w.heap.size + 1,4,none⟩) (by dsimp only;omega) (.slice none 0 0)).setCell (p:=⟨w.heap.size + 1,5,none⟩) (by dsimp only;omega) (.slice none 0 0)).setCell (p:=⟨w.heap.size + 1,6,none⟩) (by dsimp only;omega) (.int .i64 cd))
      obtain ⟨Y,hYd⟩ : ∃ Y,Y = ((((((w5.setCell ⟨w.heap.size + 1,0,none⟩ (.int .i64 0)).setCell ⟨w.heap.size + 1,1,none⟩ (.int .i64 0)).setCell ⟨w.heap.size + 1,2,none⟩ (.int .i64 0)).setCell ⟨w.heap.size + 1,3,none⟩ (.int .i64 0)).setCell ⟨w.heap.size + 1,4,none⟩ (.slice none 0 0)).setCell ⟨w.heap.size + 1,5,none⟩ (.slice none 0 0)).setCell ⟨w.heap.size + 1,6,none⟩ (.int .i64 cd):=⟨_,rfl⟩
      rw [<- hYd] at hY HYB
      have g0:=hY.cell 0 _ rfl
      have g1:=hY.cell 1 _ rfl
      have g2:=hY.cell 2 _ rfl
      have g3:=hY.cell 3 _ rfl
      have g4:=hY.cell 4 _ rfl
      have g5:=hY.cell 5 _ rfl
      have g6:=hY.cell 6 _ rfl
      have HG:=qH (And.intro g0 (And.intro g1 (And.intro g2 (And.intro g3 (And.intro g4 (And.intro g5 g6))))))
      have HYD:=qH hYd
      clear hY hYd g0 g1 g2 g3 g4 g5 g6
      go_wp2_with fail
      rw [<- HYD.out]
      obtain ⟨g0,g1,g2,g3,g4,g5,g6⟩:=HG.out
      clear z0 f0 z1 f1 z2 f2 z3 f3 z4 f4 z5 f5 z6 f6
      exact bodyPost_ret (v:=.agg #[.int .i64 0,.int .i64 0,.int .i64 0,.int .i64 0,.slice none 0 0,.slice none 0 0,.int .i64 cd]) (by simp [results,Tryz.results100,go_sem,g0,g1,g2,g3,g4,g5,g6]) rfl (by rw [HN.out];exact ⟨none,0,0,none,0,0,rfl,⟨World.ownsRow_nil _ _ _ _,World.ownsRow_nil _ _ _ _⟩,HYB.out⟩)
  · have hkn : k = n:=by omega
    have HN : Hid (doAllS b ds = (b2,0)):=qH (by rw [HDO.out,hkn,List.drop_eq_nil_of_le (by omega)];rfl)
    have hge : ¬ (k : Int) < (n : Int):=by omega
    clear hkn hlt hk
    go_wp2_with fail
    refine (told_any HD.out hsz.1 hsz.2.1 hsz.2.2.2.1 hsz.2.2.2.2).mono ?_
    rintro e w5 ⟨e1,m1,e3,e2,m2,e4,rfl,ho,hb⟩
    have HBO:=qH ho
    have HB5:=qH (HB.out.trans (hb.mono HB.out.size))
    have hz5:=HZ.out.below hb
    clear ho hb hsz
    have z0:=hz5.cell 0 _ rfl
    have f0:=hz5.free 0
    have z1:=hz5.cell 1 _ rfl
    have f1:=hz5.free 1
    have z2:=hz5.cell 2 _ rfl
    have f2:=hz5.free 2
    have z3:=hz5.cell 3 _ rfl
    have f3:=hz5.free 3
    have z4:=hz5.cell 4 _ rfl
    have f4:=hz5.free 4
    have z5:=hz5.cell 5 _ rfl
    have f5:=hz5.free 5
    have z6:=hz5.cell 6 _ rfl
    have f6:=hz5.free 6
    have hY:=(((((((hz5.set (j:=0) (by simp) (.int .i64 b2.c0)).set (j:=1) (by simp) (.int .i64 b2.c1)).set (j:=2) (by simp) (.int .i64 b2.c2)).set (j:=3) (by simp) (.int .i64 b2.c3)).set (j:=4) (by simp) (.slice e1 m1 e3)).set (j:=5) (by simp) (.slice e2 m2 e4)).set (j:=6) (by simp) (.int .i64 0))
    have HYB:=qH (((((((HB5.out.setCell (p:=⟨w.heap.size + 1,0,none⟩) (by dsimp only;omega) (.int .i64 b2.c0)).setCell (p:=⟨w.heap.size + 1,1,none⟩) (by dsimp only;omega) (.int .i64 b2.c1)).setCell (p:=⟨w.heap.size + 1,2,none⟩) (by dsimp only;omega) (.int .i64 b2.c2)).setCell (p:=⟨w.heap.size + 1,3,none⟩) (by dsimp only;omega) (.int .i64 b2.c3)).setCell (p:=⟨w.heap.size + 1,4,none⟩) (by dsimp only;omega) (.slice e1 m1 e3)).setCell (p:=⟨w.heap.size + 1,5,none⟩) (by dsimp only;omega) (.slice e2 m2 e4)).setCell (p:=⟨w.heap.size + 1,6,none⟩) (by dsimp only;omega) (.int .i64 0))
    obtain ⟨Y,hYd⟩ : ∃ Y,Y = ((((((w5.setCell ⟨w.heap.size + 1,0,none⟩ (.int .i64 b2.c0)).setCell ⟨w.heap.size + 1,1,none⟩ (.int .i64 b2.c1)).setCell ⟨w.heap.size + 1,2,none⟩ (.int .i64 b2.c2)).setCell ⟨w.heap.size + 1,3,none⟩ (.int .i64 b2.c3)).setCell ⟨w.heap.size + 1,4,none⟩ (.slice e1 m1 e3)).setCell ⟨w.heap.size + 1,5,none⟩ (.slice e2 m2 e4)).setCell ⟨w.heap.size + 1,6,none⟩ (.int .i64 0):=⟨_,rfl⟩
    have HYT : Hid (Y.ownsRow w.heap.size 97 tmE.k (.slice e1 m1 e3) m1 (tmE.flat b2.ts)):=qH (by rw [hYd];exact (own_other (own_other (own_other (own_other (own_other (own_other (own_other (own_mono HBO.out.t (show w.heap.size <= wr.heap.size from HB.out.size)) (b:=w.heap.size + 1) (fun q hq => by have:=(HBO.out.t.lt q hq).1;have:=HWS.out;have:=HSZ.out;omega) ⟨w.heap.size + 1,0,none⟩ (.int .i64 b2.c0) rfl) (b:=w.heap.size + 1) (fun q hq => by have:=(HBO.out.t.lt q hq).1;have:=HWS.out;have:=HSZ.out;omega) ⟨w.heap.size + 1,1,none⟩ (.int .i64 b2.c1) rfl) (b:=w.heap.size + 1) (fun q hq => by have:=(HBO.out.t.lt q hq).1;have:=HWS.out;have:=HSZ.out;omega) ⟨w.heap.size + 1,2,none⟩ (.int .i64 b2.c2) rfl) (b:=w.heap.size + 1) (fun q hq => by have:=(HBO.out.t.lt q hq).1;have:=HWS.out;have:=HSZ.out;omega) ⟨w.heap.size + 1,3,none⟩ (.int .i64 b2.c3) rfl) (b:=w.heap.size + 1) (fun q hq => by have:=(HBO.out.t.lt q hq).1;have:=HWS.out;have:=HSZ.out;omega) ⟨w.heap.size + 1,4,none⟩ (.slice e1 m1 e3) rfl) (b:=w.heap.size + 1) (fun q hq => by have:=(HBO.out.t.lt q hq).1;have:=HWS.out;have:=HSZ.out;omega) ⟨w.heap.size + 1,5,none⟩ (.slice e2 m2 e4) rfl) (b:=w.heap.size + 1) (fun q hq => by have:=(HBO.out.t.lt q hq).1;have:=HWS.out;have:=HSZ.out;omega) ⟨w.heap.size + 1,6,none⟩ (.int .i64 0) rfl))
    have HYI : Hid (Y.ownsRow w.heap.size 62 imE.k (.slice e2 m2 e4) m2 (imE.flat b2.is)):=qH (by rw [hYd];exact (own_other (own_other (own_other (own_other (own_other (own_other (own_other (own_mono HBO.out.i (show w.heap.size <= wr.heap.size from HB.out.size)) (b:=w.heap.size + 1) (fun q hq => by have:=(HBO.out.i.lt q hq).1;have:=HWS.out;have:=HSZ.out;omega) ⟨w.heap.size + 1,0,none⟩ (.int .i64 b2.c0) rfl) (b:=w.heap.size + 1) (fun q hq => by have:=(HBO.out.i.lt q hq).1;have:=HWS.out;have:=HSZ.out;omega) ⟨w.heap.size + 1,1,none⟩ (.int .i64 b2.c1) rfl) (b:=w.heap.size + 1) (fun q hq => by have:=(HBO.out.i.lt q hq).1;have:=HWS.out;have:=HSZ.out;omega) ⟨w.heap.size + 1,2,none⟩ (.int .i64 b2.c2) rfl) (b:=w.heap.size + 1) (fun q hq => by have:=(HBO.out.i.lt q hq).1;have:=HWS.out;have:=HSZ.out;omega) ⟨w.heap.size + 1,3,none⟩ (.int .i64 b2.c3) rfl) (b:=w.heap.size + 1) (fun q hq => by have:=(HBO.out.i.lt q hq).1;have:=HWS.out;have:=HSZ.out;omega) ⟨w.heap.size + 1,4,none⟩ (.slice e1 m1 e3) rfl) (b:=w.heap.size + 1) (fun q hq => by have:=(HBO.out.i.lt q hq).1;have:=HWS.out;have:=HSZ.out;omega) ⟨w.heap.size + 1,5,none⟩ (.slice e2 m2 e4) rfl) (b:=w.heap.size + 1) (fun q hq => by have:=(HBO.out.i.lt q hq).1;have:=HWS.out;have:=HSZ.out;omega) ⟨w.heap.size + 1,6,none⟩ (.int .i64 0) rfl))
    rw [<- hYd] at hY HYB
    have g0:=hY.cell 0 _ rfl
    have g1:=hY.cell 1 _ rfl
    have g2:=hY.cell 2 _ rfl
    have g3:=hY.cell 3 _ rfl
    have g4:=hY.cell 4 _ rfl
    have g5:=hY.cell 5 _ rfl
    have g6:=hY.cell 6 _ rfl
    have HG:=qH (And.intro g0 (And.intro g1 (And.intro g2 (And.intro g3 (And.intro g4 (And.intro g5 g6))))))
    have HYD:=qH hYd
    clear hY hYd g0 g1 g2 g3 g4 g5 g6
    go_wp2_with fail
    rw [<- HYD.out]
    obtain ⟨g0,g1,g2,g3,g4,g5,g6⟩:=HG.out
    clear z0 f0 z1 f1 z2 f2 z3 f3 z4 f4 z5 f5 z6 f6
    exact bodyPost_ret (v:=.agg #[.int .i64 b2.c0,.int .i64 b2.c1,.int .i64 b2.c2,.int .i64 b2.c3,.slice e1 m1 e3,.slice e2 m2 e4,.int .i64 0]) (by simp [results,Tryz.results100,go_sem,g0,g1,g2,g3,g4,g5,g6]) rfl (by rw [HN.out];exact ⟨e1,m1,e3,e2,m2,e4,rfl,⟨HYT.out,HYI.out⟩,HYB.out⟩)
end Go.Proofs.YthkbcjnbmciolaaGreatDoor
