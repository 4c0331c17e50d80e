/- Used by the law. -/
import Derived.Test.YtbgoldeopmlbnaaGreatDoorQB16
set_option maxRecDepth 100000
set_option maxHeartbeats 16000000
namespace Go.Proofs.YtbgoldeopmlbnaaGreatDoor
open Go.RowKit Go.PlainAid G IRow
set_option linter.unusedVariables false
def zeroK (b : Bk) : Bool:=zeroB b.c0 b.c1 b.c2 b.c3 b.ts.length b.is.length
def doS (b : Bk) (d : Dd) : Bk × Int :=
 if d.kd = 1 then (⟨d.gn,d.nd,d.mn,d.ck,if zeroK b = true then [⟨1,⟨#[120]⟩⟩] else b.ts,b.is⟩,0)
 else if zeroK b = true then (bk0,10)
 else if d.kd = 2 then (if (b.ts.length : Int) + 1 < d.no then (bk0,6) else if d.no = (b.ts.length : Int) + 1 then (⟨b.c0,b.c1,b.c2,b.c3,b.ts ++ [⟨d.no,d.lk⟩],b.is⟩,0) else (⟨b.c0,b.c1,b.c2,b.c3,b.ts.set (d.no.toNat - 1) ⟨d.no,d.lk⟩,b.is⟩,0))
 else itemsR b d
theorem neq_conf (g n m c : Int) (W : World) : (binOp .neq 24 (.agg #[.int .i64 g,.int .i64 n,.int .i64 m,.int .i64 c]) (.agg #[.int .i64 0,.int .i64 0,.int .i64 0,.int .i64 0])).run Tryz.prog W = .ok (.bool (!(decide (g = 0 /\ n = 0 /\ m = 0 /\ c = 0)))) W:=by
 by_cases h1 : g = 0 <;> by_cases h2 : n = 0 <;> by_cases h3 : m = 0 <;> by_cases h4 : c = 0 <;> simp [go_sem,h1,h2,h3,h4]
theorem nil_do1 (a b c d : Int) (w : World) : (nilAhead 328 96 (.agg #[.int .i64 a, .int .i64 b, .int .i64 c, .int .i64 d]) "loop.example/g00839/impl.do").run Tryz.prog w = .ok (some false) w := by kernel_rfl
theorem met_do1 (a b c d : Int) (w : World) : (method 328 96 (.agg #[.int .i64 a, .int .i64 b, .int .i64 c, .int .i64 d]) "loop.example/g00839/impl.do").run Tryz.prog w = .ok (159, .agg #[.int .i64 a, .int .i64 b, .int .i64 c, .int .i64 d]) w := by kernel_rfl
theorem nil_do2 (a : Int) (b : ByteArray) (w : World) : (nilAhead 328 97 (.agg #[.int .i64 a, .string b]) "loop.example/g00839/impl.do").run Tryz.prog w = .ok (some false) w := by kernel_rfl
theorem met_do2 (a : Int) (b : ByteArray) (w : World) : (method 328 97 (.agg #[.int .i64 a, .string b]) "loop.example/g00839/impl.do").run Tryz.prog w = .ok (163, .agg #[.int .i64 a, .string b]) w := by kernel_rfl
theorem nil_do3 (a : ByteArray) (b : Int) (c : ByteArray) (w : World) : (nilAhead 328 98 (.agg #[.string a, .int .i64 b, .string c]) "loop.example/g00839/impl.do").run Tryz.prog w = .ok (some false) w := by kernel_rfl
theorem met_do3 (a : ByteArray) (b : Int) (c : ByteArray) (w : World) : (method 328 98 (.agg #[.string a, .int .i64 b, .string c]) "loop.example/g00839/impl.do").run Tryz.prog w = .ok (167, .agg #[.string a, .int .i64 b, .string c]) w := by kernel_rfl
theorem nil_do4 (a : ByteArray) (w : World) : (nilAhead 328 99 (.string a) "loop.example/g00839/impl.do").run Tryz.prog w = .ok (some false) w := by kernel_rfl
theorem met_do4 (a : ByteArray) (w : World) : (method 328 99 (.string a) "loop.example/g00839/impl.do").run Tryz.prog w = .ok (171, .string a) w := by kernel_rfl
theorem deedB_cases {q0 q1 q2 q3 q4 q5 : Int} {q6 q7 : ByteArray} {q8 : Int} {q9 : ByteArray} (h : deedB q0 q1 q2 q3 q4 q5 q6 q7 q8 q9 = true) : (q0 = 1 /\ (1 <= q1 /\ q1 <= 999) /\ (1 <= q2 /\ q2 <= 10) /\ (q2 <= q3 /\ q3 <= 20) /\ (0 <= q4 /\ q4 <= 4294967295)) ∨ (q0 = 2 /\ (1 <= q5 /\ q5 <= 5) /\ (1 <= q6.size /\ q6.size <= 16)) ∨ (q0 = 3 /\ (1 <= q7.size /\ q7.size <= 8) /\ (1 <= q8 /\ q8 <= 5) /\ (1 <= q9.size /\ q9.size <= 20)) ∨ (q0 = 4 /\ (1 <= q7.size /\ q7.size <= 8)):=by
 unfold deedB at h
 by_cases k1 : q0 = 1
 · rw [if_pos k1] at h
   simp only [Bool.and_eq_true] at h
   exact .inl ⟨k1,confB_iff.1 h.1.1⟩
 · rw [if_neg k1] at h
   by_cases k2 : q0 = 2
   · rw [if_pos k2] at h
     simp only [Bool.and_eq_true] at h
     exact .inr (.inl ⟨k2,termB_iff.1 h.1.2⟩)
   · rw [if_neg k2] at h
     by_cases k3 : q0 = 3
     · rw [if_pos k3] at h
       simp only [Bool.and_eq_true] at h
       obtain ⟨h1,h2,h3⟩:=itemB_iff.1 h.2
       exact .inr (.inr (.inl ⟨k3,wordB_size h1,h2,h3⟩))
     · rw [if_neg k3] at h
       by_cases k4 : q0 = 4
       · rw [if_pos k4] at h
         simp only [Bool.and_eq_true] at h
         exact .inr (.inr (.inr ⟨k4,wordB_size h.2⟩))
       · rw [if_neg k4] at h
         cases h
theorem deed_do {q0 q1 q2 q3 q4 q5 : Int} {q6 q7 : ByteArray} {q8 : Int} {q9 : ByteArray} {base B M : Nat} {v : Value} {b : Bk} (hB : deedB q0 q1 q2 q3 q4 q5 q6 q7 q8 q9 = true) (hz : zeroK b = false) (ht : b.ts.length <= 5) (hi : b.is.length <= 8) :
 ∃ (T : TypeId) (x : Value) (F : FuncId),(∀ u,Calls Tryz.prog 32 #[.agg #[.int .i64 q0,.int .i64 q1,.int .i64 q2,.int .i64 q3,.int .i64 q4,.int .i64 q5,.string q6,.string q7,.int .i64 q8,.string q9]] u fun e w' => e = .returned (.iface T x) /\ Below u.heap.size u w') ∧
  (∀ u, (nilAhead 328 T x "loop.example/g00839/impl.do").run Tryz.prog u = .ok (some false) u) /\ (∀ u, (method 328 T x "loop.example/g00839/impl.do").run Tryz.prog u = .ok (F, x) u) /\ (∀ u y, (callFunc F #[x, y]).run Tryz.prog u = .ok (.enter F #[x, y]) u) ∧
  (∀ u,Dr u base B M v b -> base <= u.heap.size -> Calls Tryz.prog F #[x,.pointer (some ⟨B,0,none⟩)] u fun e w' => e = .returned (.int .i64 (doS b ⟨q0,q1,q2,q3,q4,q5,q6,q7,q8,q9⟩).2) /\ Below base u w' /\ ((doS b ⟨q0,q1,q2,q3,q4,q5,q6,q7,q8,q9⟩).2 = 0 -> ∃ v',Dr w' base B M v' (doS b ⟨q0,q1,q2,q3,q4,q5,q6,q7,q8,q9⟩).1)):=by
 rcases deedB_cases hB with ⟨rfl,_⟩ | ⟨rfl,h5,h6⟩ | ⟨rfl,h7,h8,h9⟩ | ⟨rfl,h7⟩
 · refine ⟨_,_,_,fun u => deedOf1_any 1 q1 q2 q3 q4 q5 q6 q7 q8 q9 rfl u,fun u => nil_do1 q1 q2 q3 q4 u,fun u => met_do1 q1 q2 q3 q4 u,fun u y => by kernel_rfl,fun u hD hs => (confDo_any q1 q2 q3 q4 hD hs).mono ?_⟩
   rintro e w' ⟨rfl,hD2,hb⟩
   have hd : doS b ⟨1,q1,q2,q3,q4,q5,q6,q7,q8,q9⟩ = (⟨q1,q2,q3,q4,b.ts,b.is⟩,0):=by unfold doS;rw [if_pos rfl,hz];rfl
   rw [hd]
   exact ⟨rfl,hb,fun _ => ⟨_,hD2⟩⟩
 · refine ⟨_,_,_,fun u => deedOf2_any 2 q1 q2 q3 q4 q5 q6 q7 q8 q9 rfl u,fun u => nil_do2 q5 q6 u,fun u => met_do2 q5 q6 u,fun u y => by kernel_rfl,fun u hD hs => ?_⟩
   have hd : doS b ⟨2,q1,q2,q3,q4,q5,q6,q7,q8,q9⟩ = (if (b.ts.length : Int) + 1 < q5 then (bk0,6) else if q5 = (b.ts.length : Int) + 1 then (⟨b.c0,b.c1,b.c2,b.c3,b.ts ++ [⟨q5,q6⟩],b.is⟩,0) else (⟨b.c0,b.c1,b.c2,b.c3,b.ts.set (q5.toNat - 1) ⟨q5,q6⟩,b.is⟩,0)):=by
    unfold doS;dsimp only;rw [if_neg (by decide),hz,if_neg (by decide),if_pos rfl]
   rw [hd]
   by_cases c1 : (b.ts.length : Int) + 1 < q5
   · rw [if_pos c1]
     refine (termDo_none q5 q6 hD hs ht c1).mono ?_
     rintro e w' ⟨rfl,hb⟩
     exact ⟨rfl,hb,fun h => by cases h⟩
   · rw [if_neg c1]
     by_cases c2 : q5 = (b.ts.length : Int) + 1
     · rw [if_pos c2]
       refine (termDo_next q5 q6 hD hs ht c2).mono ?_
       rintro e w' ⟨rfl,v',hD2,hb⟩
       exact ⟨rfl,hb,fun _ => ⟨v',hD2⟩⟩
     · rw [if_neg c2]
       refine (termDo_old q5 q6 hD hs ht (q5.toNat - 1) (by omega) (by omega)).mono ?_
       rintro e w' ⟨rfl,hD2,hb⟩
       exact ⟨rfl,hb,fun _ => ⟨_,hD2⟩⟩
 · refine ⟨_,_,_,fun u => deedOf3_any 3 q1 q2 q3 q4 q5 q6 q7 q8 q9 rfl u,fun u => nil_do3 q7 q8 q9 u,fun u => met_do3 q7 q8 q9 u,fun u y => by kernel_rfl,fun u hD hs => ?_⟩
   have hd : doS b ⟨3,q1,q2,q3,q4,q5,q6,q7,q8,q9⟩ = itemsR b ⟨3,q1,q2,q3,q4,q5,q6,q7,q8,q9⟩:=by
    unfold doS;dsimp only;rw [if_neg (by decide),hz,if_neg (by decide),if_neg (by decide)]
   rw [hd]
   have hqm : q7.size <= maxLen:=by unfold maxLen;omega
   unfold itemsR
   dsimp only
   by_cases c1 : (b.ts.length : Int) < q8
   · rw [if_pos ⟨rfl,c1⟩]
     refine (putDo_none q7 q8 q9 hD hs hqm ht hi c1).mono ?_
     rintro e w' ⟨rfl,hb⟩
     exact ⟨rfl,hb,fun h => by cases h⟩
   · rw [if_neg (fun h => c1 h.2)]
     have hit : itemsL b.is ⟨3,q1,q2,q3,q4,q5,q6,q7,q8,q9⟩ = genI [⟨q7,q8,q9⟩] q7 b.is:=by rw [items_gen];rfl
     cases c2 : hasI b.is q7
     · by_cases c3 : 8 <= b.is.length
       · rw [if_pos ⟨rfl,rfl,c3⟩]
         refine (putDo_full q7 q8 q9 hD hs hqm ht hi c1 c2 c3).mono ?_
         rintro e w' ⟨rfl,hb⟩
         exact ⟨rfl,hb,fun h => by cases h⟩
       · rw [if_neg (fun h => c3 h.2.2),if_neg (fun h => by have:=h.1;omega),hit]
         refine (putDo_new q7 q8 q9 hD hs hqm ht hi c1 c2 c3).mono ?_
         rintro e w' ⟨rfl,hD2,hb⟩
         exact ⟨rfl,hb,fun _ => ⟨_,hD2⟩⟩
     · rw [if_neg (fun h => by cases h.2.1),if_neg (fun h => by have:=h.1;omega),hit]
       refine (putDo_old q7 q8 q9 hD hs hqm ht hi c1 c2).mono ?_
       rintro e w' ⟨rfl,hD2,hb⟩
       exact ⟨rfl,hb,fun _ => ⟨_,hD2⟩⟩
 · refine ⟨_,_,_,fun u => deedOf4_any 4 q1 q2 q3 q4 q5 q6 q7 q8 q9 rfl u,fun u => nil_do4 q7 u,fun u => met_do4 q7 u,fun u y => by kernel_rfl,fun u hD hs => ?_⟩
   have hd : doS b ⟨4,q1,q2,q3,q4,q5,q6,q7,q8,q9⟩ = itemsR b ⟨4,q1,q2,q3,q4,q5,q6,q7,q8,q9⟩:=by
    unfold doS;dsimp only;rw [if_neg (by decide),hz,if_neg (by decide),if_neg (by decide)]
   rw [hd]
   have hqm : q7.size <= maxLen:=by unfold maxLen;omega
   unfold itemsR
   dsimp only
   rw [if_neg (fun h => by have:=h.1;omega),if_neg (fun h => by have:=h.1;omega)]
   have hit : itemsL b.is ⟨4,q1,q2,q3,q4,q5,q6,q7,q8,q9⟩ = genI [] q7 b.is:=by rw [items_gen];rfl
   cases c2 : hasI b.is q7
   · rw [if_pos ⟨rfl,rfl⟩]
     refine (delDo_no q7 hD hs hqm c2).mono ?_
     rintro e w' ⟨rfl,hb⟩
     exact ⟨rfl,hb,fun h => by cases h⟩
   · rw [if_neg (fun h => by cases h.2),hit]
     refine (delDo_yes q7 hD hs hqm c2).mono ?_
     rintro e w' ⟨rfl,hD2,hb⟩
     exact ⟨rfl,hb,fun _ => ⟨_,hD2⟩⟩
theorem draftDo_any (q0 q1 q2 q3 q4 q5 : Int) (q6 q7 : ByteArray) (q8 : Int) (q9 : ByteArray) {w : World} {base B M : Nat} {v : Value} {b : Bk} (h : Dr w base B M v b) (hbs : base <= w.heap.size) (hB : deedB q0 q1 q2 q3 q4 q5 q6 q7 q8 q9 = true) (hzc : zeroK b = decide (b.c0 = 0 /\ b.c1 = 0 /\ b.c2 = 0 /\ b.c3 = 0)) (ht : b.ts.length <= 5) (hi : b.is.length <= 8) :
 Calls Tryz.prog 82 #[.pointer (some ⟨B,0,none⟩),.agg #[.int .i64 q0,.int .i64 q1,.int .i64 q2,.int .i64 q3,.int .i64 q4,.int .i64 q5,.string q6,.string q7,.int .i64 q8,.string q9]] w fun e w' => e = .returned (.int .i64 (doS b ⟨q0,q1,q2,q3,q4,q5,q6,q7,q8,q9⟩).2) /\ Below base w w' /\ ((doS b ⟨q0,q1,q2,q3,q4,q5,q6,q7,q8,q9⟩).2 = 0 -> ∃ v',Dr w' base B M v' (doS b ⟨q0,q1,q2,q3,q4,q5,q6,q7,q8,q9⟩).1):=by
 obtain ⟨V,hV⟩ : ∃ V,V = w.alloc (.cells #[.int .i64 q0,.int .i64 q1,.int .i64 q2,.int .i64 q3,.int .i64 q4,.int .i64 q5,.string q6,.string q7,.int .i64 q8,.string q9] 34):=⟨_,rfl⟩
 have HBB : Hid (Below base w V):=qH (by rw [hV];exact (Below.refl _ _).alloc hbs _)
 have HX : Hid (BoxC V w.heap.size [.int .i64 q0,.int .i64 q1,.int .i64 q2,.int .i64 q3,.int .i64 q4,.int .i64 q5,.string q6,.string q7,.int .i64 q8,.string q9]):=qH (by rw [hV];exact BoxC.made _ _ _)
 have HD : Hid (Dr V base B M v b):=qH (by rw [hV];exact h.below ((Below.refl _ _).alloc (Nat.le_refl _) _))
 have HBV : Hid (base <= V.heap.size):=qH (Nat.le_trans hbs HBB.out.size)
 clear h
 have hne:=neq_conf b.c0 b.c1 b.c2 b.c3
 rw [<- hzc] at hne
 have x0:=HD.out.box.cell 0 _ rfl
 have x1:=HD.out.box.cell 1 _ rfl
 have x2:=HD.out.box.cell 2 _ rfl
 have x3:=HD.out.box.cell 3 _ rfl
 clear hzc
 go_enter Tryz.func82,Tryz.ntmps82
 go_upto_region 1 with fail
 rw [<- hV]
 clear hV
 cases hz : zeroK b
 · rw [hz] at hne
   obtain ⟨T,x,F,hdo,hnl,hme,hcf,hF⟩:=deed_do (base:=base) (B:=B) (M:=M) (v:=v) hB hz ht hi
   have HDO:=qH hdo
   have HF:=qH hF
   clear hdo hF
   have d0:=HX.out.cell 0 _ rfl
   have d1:=HX.out.cell 1 _ rfl
   have d2:=HX.out.cell 2 _ rfl
   have d3:=HX.out.cell 3 _ rfl
   have d4:=HX.out.cell 4 _ rfl
   have d5:=HX.out.cell 5 _ rfl
   have d6:=HX.out.cell 6 _ rfl
   have d7:=HX.out.cell 7 _ rfl
   have d8:=HX.out.cell 8 _ rfl
   have d9:=HX.out.cell 9 _ rfl
   go_wp2_with fail
   refine (HDO.out _).mono ?_
   rintro e w1 ⟨rfl,hb⟩
   have HD1:=qH (HD.out.below hb)
   have HBB1:=qH (HBB.out.trans (hb.mono HBV.out))
   have HBV1:=qH (Nat.le_trans HBV.out hb.size)
   clear hb x0 x1 x2 x3 d0 d1 d2 d3 d4 d5 d6 d7 d8 d9
   go_wp2_with fail
   refine (HF.out _ HD1.out HBV1.out).mono ?_
   rintro e w2 ⟨rfl,hp⟩
   have HP:=qH hp
   clear hp
   go_wp2_with fail
   go_ret
   exact ⟨rfl,HBB1.out.trans HP.out.1,HP.out.2⟩
 · rw [hz] at hne
   have d0:=HX.out.cell 0 _ rfl
   by_cases k1 : q0 = 1
   · subst k1
     have hd : doS b ⟨1,q1,q2,q3,q4,q5,q6,q7,q8,q9⟩ = (⟨q1,q2,q3,q4,[⟨1,⟨#[120]⟩⟩],b.is⟩,0):=by unfold doS;rw [if_pos rfl,hz];rfl
     have HDD:=qH hd
     clear hd
     have d1:=HX.out.cell 1 _ rfl
     have d2:=HX.out.cell 2 _ rfl
     have d3:=HX.out.cell 3 _ rfl
     have d4:=HX.out.cell 4 _ rfl
     have d5:=HX.out.cell 5 _ rfl
     have d6:=HX.out.cell 6 _ rfl
     have d7:=HX.out.cell 7 _ rfl
     have d8:=HX.out.cell 8 _ rfl
     have d9:=HX.out.cell 9 _ rfl
     go_wp2_with fail
     refine (deedOf1_any 1 q1 q2 q3 q4 q5 q6 q7 q8 q9 rfl _).mono ?_
     rintro e w1 ⟨rfl,hb⟩
     have HD1:=qH (HD.out.below hb)
     have HBB1:=qH (HBB.out.trans (hb.mono HBV.out))
     have HBV1:=qH (Nat.le_trans HBV.out hb.size)
     clear hb x0 x1 x2 x3 d0 d1 d2 d3 d4 d5 d6 d7 d8 d9
     have hta : ∀ u : World,(Instr.typeAssert (.iface 96 (.agg #[.int .i64 q1,.int .i64 q2,.int .i64 q3,.int .i64 q4])) 63 96 false).run Tryz.prog u = .ok (.agg #[.int .i64 q1,.int .i64 q2,.int .i64 q3,.int .i64 q4]) u:=fun u => by kernel_rfl
     go_wp2_with fail
     refine (begin_any q1 q2 q3 q4 HD1.out HBV1.out).mono ?_
     rintro e w2 ⟨rfl,v',hD2,hb2⟩
     have HD2:=qH hD2
     have HB2:=qH (HBB1.out.trans hb2)
     clear hD2 hb2
     go_wp2_with fail
     go_ret
     rw [HDD.out]
     exact ⟨rfl,HB2.out,fun _ => ⟨v',HD2.out⟩⟩
   · have hd : doS b ⟨q0,q1,q2,q3,q4,q5,q6,q7,q8,q9⟩ = (bk0,10):=by unfold doS;rw [if_neg k1,if_pos hz]
     have k2 : (q0 != 1) = true:=by simpa using k1
     have HDD:=qH hd
     clear hd
     go_wp2_with fail
     go_ret
     exact ⟨by rw [HDD.out];rfl,HBB.out,fun h => by rw [HDD.out] at h;cases h⟩
structure RightB (b : Bk) : Prop where
 conf : confB b.c0 b.c1 b.c2 b.c3 = true
 len : 1 <= b.ts.length /\ b.ts.length <= 5
 many : b.is.length <= 8
 term : ∀ i,i < b.ts.length -> termB (b.ts.getD i tmD).no (b.ts.getD i tmD).lk = true /\ (b.ts.getD i tmD).no = (i : Int) + 1
 item : ∀ x ∈ b.is,itemB x.nm x.tm x.bd = true /\ x.tm <= (b.ts.length : Int)
 rise : RiseI b.is
theorem zeroK_iff {b : Bk} : zeroK b = true ↔ (b.c0 = 0 /\ b.c1 = 0 /\ b.c2 = 0 /\ b.c3 = 0) /\ b.ts = [] /\ b.is = []:=by
 unfold zeroK zeroB
 rw [Bool.and_eq_true,Bool.and_eq_true,decide_eq_true_eq,decide_eq_true_eq,decide_eq_true_eq,List.length_eq_zero_iff,List.length_eq_zero_iff,and_assoc]
theorem bookB_of {b : Bk} (h : bookB b = true) : zeroK b = true ∨ RightB b:=by
 unfold bookB at h
 rw [Bool.or_eq_true] at h
 rcases h with h | h
 · exact .inl h
 · refine .inr ?_
   simp only [Bool.and_eq_true,decide_eq_true_eq] at h
   obtain ⟨⟨⟨⟨h1,h2⟩,h3⟩,h4⟩,h5⟩:=h
   refine ⟨h1,h2,h3,fun i hi => ?_,fun x hx => ?_,rise_of h5⟩
   · have:=allTo'_iff.1 h4 i hi
     unfold tAt at this
     rw [Bool.and_eq_true,decide_eq_true_eq] at this
     exact this
   · obtain ⟨i,hi,rfl⟩:=List.mem_iff_getElem.1 hx
     have:=allTo'_iff.1 h5 i hi
     unfold iAt at this
     rw [Bool.and_eq_true,Bool.and_eq_true,decide_eq_true_eq] at this
     have e : b.is.getD i imD = b.is[i]:=by simp [List.getD,List.getElem?_eq_getElem hi]
     rw [e] at this
     exact this.1
theorem bookB_right {b : Bk} (h : RightB b) : bookB b = true:=by
 unfold bookB
 rw [Bool.or_eq_true]
 refine .inr ?_
 simp only [Bool.and_eq_true,decide_eq_true_eq]
 refine ⟨⟨⟨⟨h.conf,h.len⟩,h.many⟩,allTo'_iff.2 fun i hi => ?_⟩,allTo'_iff.2 fun i hi => ?_⟩
 · unfold tAt
   rw [Bool.and_eq_true,decide_eq_true_eq]
   exact h.term i hi
 · unfold iAt
   have e : b.is.getD i imD = b.is[i]:=by simp [List.getD,List.getElem?_eq_getElem hi]
   rw [Bool.and_eq_true,Bool.and_eq_true,decide_eq_true_eq,e]
   refine ⟨h.item _ (List.getElem_mem hi),?_⟩
   rw [Bool.or_eq_true,decide_eq_true_eq]
   by_cases h0 : i = 0
   · exact .inl h0
   · refine .inr ?_
     have hj : i - 1 < b.is.length:=by omega
     have e2 : b.is.getD (i - 1) imD = b.is[i - 1]:=by simp [List.getD,List.getElem?_eq_getElem hj]
     rw [e2]
     exact List.pairwise_iff_getElem.1 h.rise (i - 1) i hj hi (by omega)
theorem RightB.notZero {b : Bk} (h : RightB b) : zeroK b = false:=by
 cases hz : zeroK b
 · rfl
 · have:=(zeroK_iff.1 hz).2.1
   have h2:=h.len.1
   rw [this] at h2
   simp at h2
theorem conf_zero {b : Bk} (h : bookB b = true) : zeroK b = decide (b.c0 = 0 /\ b.c1 = 0 /\ b.c2 = 0 /\ b.c3 = 0):=by
 rcases bookB_of h with hz | hr
 · rw [hz,decide_eq_true (zeroK_iff.1 hz).1]
 · rw [hr.notZero,decide_eq_false (fun e => by have:=(confB_iff.1 hr.conf).1.1;omega)]
theorem gen_length_put {x : Im} : ∀ {is : List Im},RiseI is -> (genI [x] x.nm is).length = if hasI is x.nm = true then is.length else is.length + 1
 | [],_ => by simp [genI,hasI]
 | y :: r,h => by
  obtain ⟨h0,hr⟩:=List.pairwise_cons.1 h
  rw [hasI_cons]
  unfold genI
  by_cases h1 : ltS y.nm x.nm = true
  · rw [if_pos h1,if_pos h1,List.length_cons,gen_length_put hr]
    split <;> simp
  · rw [if_neg h1,if_neg h1]
    by_cases h2 : y.nm = x.nm
    · rw [if_pos h2,if_pos (decide_eq_true h2)];simp
    · rw [if_neg h2,if_neg (by rw [decide_eq_false h2];decide)];simp
theorem gen_length_del {nm : ByteArray} : ∀ {is : List Im},(genI [] nm is).length <= is.length
 | [] => by simp [genI]
 | y :: r => by
  unfold genI
  split
  · have:=gen_length_del (nm:=nm) (is:=r);simp only [List.length_cons];omega
  · split <;> simp
theorem doS_right {b : Bk} {d : Dd} (hb : bookB b = true) (hd : deedOf d = true) (hc : (doS b d).2 = 0) : RightB (doS b d).1:=by
 obtain ⟨q0,q1,q2,q3,q4,q5,q6,q7,q8,q9⟩:=d
 have hB : deedB q0 q1 q2 q3 q4 q5 q6 q7 q8 q9 = true:=hd
 by_cases k1 : q0 = 1
 · subst k1
   have hcf : confB q1 q2 q3 q4 = true:=by
    unfold deedB at hB
    rw [if_pos rfl,Bool.and_eq_true,Bool.and_eq_true] at hB
    exact hB.1.1
   unfold doS
   rw [if_pos rfl]
   dsimp only
   rcases bookB_of hb with hz | hr
   · rw [hz,if_pos rfl]
     have hi:=(zeroK_iff.1 hz).2.2
     rw [hi]
     refine ⟨hcf,by simp,by simp,fun i hi => ?_,fun x hx => (by cases hx),List.Pairwise.nil⟩
     have h0 : i = 0:=by simp at hi;omega
     subst h0
     exact ⟨by rfl,by simp⟩
   · rw [hr.notZero,if_neg (by decide)]
     exact ⟨hcf,hr.len,hr.many,hr.term,hr.item,hr.rise⟩
 · have hz : zeroK b = false:=by
    cases hz : zeroK b
    · rfl
    · unfold doS at hc
      rw [if_neg k1,if_pos hz] at hc
      cases hc
   have hr:=(bookB_of hb).resolve_left (by rw [hz];decide)
   unfold doS at hc ⊢
   rw [if_neg k1,if_neg (by rw [hz];decide)] at hc ⊢
   by_cases k2 : q0 = 2
   · subst k2
     have htm : termB q5 q6 = true:=by
      unfold deedB at hB
      rw [if_neg (by decide),if_pos rfl,Bool.and_eq_true,Bool.and_eq_true] at hB
      exact hB.1.2
     have hno:=(termB_iff.1 htm).1
     rw [if_pos rfl] at hc ⊢
     dsimp only at hc ⊢
     by_cases c1 : (b.ts.length : Int) + 1 < q5
     · rw [if_pos c1] at hc;cases hc
     · rw [if_neg c1]
       by_cases c2 : q5 = (b.ts.length : Int) + 1
       · rw [if_pos c2]
         refine ⟨hr.conf,by simp;omega,hr.many,fun i hi => ?_,fun x hx => ?_,hr.rise⟩
         · rcases Nat.lt_or_ge i b.ts.length with h | h
           · have e : (b.ts ++ [(⟨q5,q6⟩ : Tm)]).getD i tmD = b.ts.getD i tmD:=by simp [List.getD,List.getElem?_append_left h]
             rw [e];exact hr.term i h
           · have h2 : i = b.ts.length:=by simp at hi;omega
             have e : (b.ts ++ [(⟨q5,q6⟩ : Tm)]).getD i tmD = ⟨q5,q6⟩:=by simp [List.getD,h2]
             rw [e];exact ⟨htm,by dsimp only;omega⟩
         · have:=hr.item x hx
           exact ⟨this.1,by simp;omega⟩
       · rw [if_neg c2]
         have hlt : q5.toNat - 1 < b.ts.length:=by omega
         refine ⟨hr.conf,by simp;exact hr.len,hr.many,fun i hi => ?_,fun x hx => ?_,hr.rise⟩
         · have hi2 : i < b.ts.length:=by simpa using hi
           by_cases h : q5.toNat - 1 = i
           · have e : (b.ts.set (q5.toNat - 1) (⟨q5,q6⟩ : Tm)).getD i tmD = ⟨q5,q6⟩:=by simp [List.getD,h,hi2]
             rw [e];exact ⟨htm,by dsimp only;omega⟩
           · have e : (b.ts.set (q5.toNat - 1) (⟨q5,q6⟩ : Tm)).getD i tmD = b.ts.getD i tmD:=by simp [List.getD,h]
             rw [e];exact hr.term i hi2
         · have:=hr.item x hx
           exact ⟨this.1,by simpa using this.2⟩
   · rw [if_neg k2] at hc ⊢
     unfold itemsR at hc ⊢
     by_cases c1 : (⟨q0,q1,q2,q3,q4,q5,q6,q7,q8,q9⟩ : Dd).kd = 3 /\ (b.ts.length : Int) < (⟨q0,q1,q2,q3,q4,q5,q6,q7,q8,q9⟩ : Dd).tm
     · rw [if_pos c1] at hc;cases hc
     · rw [if_neg c1] at hc ⊢
       by_cases c2 : (⟨q0,q1,q2,q3,q4,q5,q6,q7,q8,q9⟩ : Dd).kd = 3 /\ hasI b.is (⟨q0,q1,q2,q3,q4,q5,q6,q7,q8,q9⟩ : Dd).nm = false /\ 8 <= b.is.length
       · rw [if_pos c2] at hc;cases hc
       · rw [if_neg c2] at hc ⊢
         by_cases c3 : (⟨q0,q1,q2,q3,q4,q5,q6,q7,q8,q9⟩ : Dd).kd = 4 /\ hasI b.is (⟨q0,q1,q2,q3,q4,q5,q6,q7,q8,q9⟩ : Dd).nm = false
         · rw [if_pos c3] at hc;cases hc
         · rw [if_neg c3,items_gen]
           dsimp only at c1 c2 c3 ⊢
           by_cases k3 : q0 = 3
           · subst k3
             have hit : itemB q7 q8 q9 = true:=by
              unfold deedB at hB
              rw [if_neg (by decide),if_neg (by decide),if_pos rfl,Bool.and_eq_true] at hB
              exact hB.2
             rw [if_pos rfl]
             have hlen:=gen_length_put (x:=⟨q7,q8,q9⟩) hr.rise
             dsimp only at hlen
             refine ⟨hr.conf,hr.len,?_,hr.term,fun x hx => ?_,gen_rise (.inr ⟨_,rfl,rfl⟩) hr.rise⟩
             · show (genI [⟨q7,q8,q9⟩] q7 b.is).length <= 8
               rw [hlen]
               cases hh : hasI b.is q7
               · rw [if_neg (by decide)]
                 have:=hr.many
                 by_cases h8 : 8 <= b.is.length
                 · exact absurd ⟨rfl,hh,h8⟩ c2
                 · omega
               · rw [if_pos rfl];exact hr.many
             · rcases mem_gen hx with h | h
               · obtain rfl:=List.mem_singleton.1 h
                 refine ⟨hit,?_⟩
                 show q8 <= (b.ts.length : Int)
                 by_cases h8 : (b.ts.length : Int) < q8
                 · exact absurd ⟨rfl,h8⟩ c1
                 · omega
               · exact hr.item x h
           · rw [if_neg k3]
             refine ⟨hr.conf,hr.len,Nat.le_trans gen_length_del hr.many,hr.term,fun x hx => ?_,gen_rise (.inl rfl) hr.rise⟩
             rcases mem_gen hx with h | h
             · cases h
             · exact hr.item x h
def doAllS : Bk -> List Dd -> Bk × Int
 | b,[] => (b,0)
 | b,d :: r => if (doS b d).2 = 0 then doAllS (doS b d).1 r else (bk0,(doS b d).2)
theorem book_sizes {b : Bk} (h : bookB b = true) : b.ts.length <= 5 /\ b.is.length <= 8 /\ RiseI b.is /\ (∀ t,t < b.ts.length -> (b.ts.getD t tmD).lk.size <= 16) /\ (∀ t,t < b.is.length -> (b.is.getD t imD).nm.size <= 8 /\ (b.is.getD t imD).bd.size <= 20):=by
 rcases bookB_of h with hz | hr
 · obtain ⟨_,h1,h2⟩:=zeroK_iff.1 hz
   rw [h1,h2]
   exact ⟨by simp,by simp,List.Pairwise.nil,fun t ht => by simp at ht,fun t ht => by simp at ht⟩
 · refine ⟨hr.len.2,hr.many,hr.rise,fun t ht => (termB_iff.1 (hr.term t ht).1).2.2,fun t ht => ?_⟩
   have hm : b.is.getD t imD ∈ b.is:=by rw [List.getD,List.getElem?_eq_getElem ht];exact List.getElem_mem ht
   have:=itemB_iff.1 (hr.item _ hm).1
   exact ⟨(wordB_size this.1).2,this.2.2.2⟩
theorem row_apart {w : World} {base B n : Nat} {v : Value} {ts : List Tm} {x : Int} (hr : w.ownsRow base 30 tmE.k v n (tmE.flat ts)) (h0 : 0 < n) (hb : w.cell? ⟨B,1,none⟩ = some (.int .i64 x)) : ∀ q,v.ownBlock = some q -> q ≠ B:=by
 intro q hq
 rcases hr.2 with ⟨rfl,h⟩ | ⟨g,cap,cur,rfl,_,hg,_⟩
 · omega
 · have hgq : g = q:=by simpa [Value.ownBlock] using hq
   subst hgq
   obtain ⟨g',o',hge,_,_,t1⟩:=TmR.at (TmR.own hr) h0
   simp only [Option.some.injEq,Addr.mk.injEq,and_true] at hge
   obtain ⟨rfl,rfl⟩:=hge
   intro e
   subst e
   simp only [Nat.zero_mul,Nat.zero_add] at t1
   rw [hb] at t1
   cases t1
theorem l07Items_any (c0 c1 c2 c3 : Int) (ts : List Tm) (is : List Im) (q0 q1 q2 q3 q4 q5 : Int) (q6 q7 : ByteArray) (q8 : Int) (q9 : ByteArray) (a1 a2 : Option Addr) (n1 n2 a3 a4 : Nat) (w : World) (h : BkR w a1 n1 a3 a2 n2 a4 ts is) (hn1 : n1 <= 5) (hn2 : n2 <= 8) (hkd : q0 = 3 ∨ q0 = 4) :
 Calls Tryz.prog 85 #[.agg #[.int .i64 c0,.int .i64 c1,.int .i64 c2,.int .i64 c3,.slice a1 n1 a3,.slice a2 n2 a4],.agg #[.int .i64 q0,.int .i64 q1,.int .i64 q2,.int .i64 q3,.int .i64 q4,.int .i64 q5,.string q6,.string q7,.int .i64 q8,.string q9]] w (NewBookOut (itemsR ⟨c0,c1,c2,c3,ts,is⟩ ⟨q0,q1,q2,q3,q4,q5,q6,q7,q8,q9⟩) w):=by
 have key : ((q0 = 3 /\ (n1 : Int) < q8) ∨ (q0 = 3 /\ ¬ (n1 : Int) < q8 /\ hasI is q7 = false /\ 8 <= n2) ∨ (q0 = 4 /\ hasI is q7 = false)) ∨ ((q0 = 3 /\ ¬ (n1 : Int) < q8 /\ (hasI is q7 = true ∨ n2 < 8)) ∨ (q0 = 4 /\ hasI is q7 = true)):=by
  cases hh : hasI is q7
  · rcases hkd with rfl | rfl
    · by_cases h1 : (n1 : Int) < q8
      · exact .inl (.inl ⟨rfl,h1⟩)
      · by_cases h8 : 8 <= n2
        · exact .inl (.inr (.inl ⟨rfl,h1,rfl,h8⟩))
        · exact .inr (.inl ⟨rfl,h1,.inr (by omega)⟩)
    · exact .inl (.inr (.inr ⟨rfl,rfl⟩))
  · rcases hkd with rfl | rfl
    · by_cases h1 : (n1 : Int) < q8
      · exact .inl (.inl ⟨rfl,h1⟩)
      · exact .inr (.inl ⟨rfl,h1,.inl rfl⟩)
    · exact .inr (.inr ⟨rfl,rfl⟩)
 rcases key with hbad | hok
 · exact l07Items_code c0 c1 c2 c3 ts is q0 q1 q2 q3 q4 q5 q6 q7 q8 q9 a1 a2 n1 n2 a3 a4 w h hn1 hn2 hbad
 · exact l07Items_ok c0 c1 c2 c3 ts is q0 q1 q2 q3 q4 q5 q6 q7 q8 q9 a1 a2 n1 n2 a3 a4 w h hn1 hn2 hok
theorem l07Do_any (c0 c1 c2 c3 : Int) (ts : List Tm) (is : List Im) (q0 q1 q2 q3 q4 q5 : Int) (q6 q7 : ByteArray) (q8 : Int) (q9 : ByteArray) (a1 a2 : Option Addr) (n1 n2 a3 a4 : Nat) (w : World) (h : BkR w a1 n1 a3 a2 n2 a4 ts is) (hb : bookB ⟨c0,c1,c2,c3,ts,is⟩ = true) (hd : deedB q0 q1 q2 q3 q4 q5 q6 q7 q8 q9 = true) :
 Calls Tryz.prog 46 #[.agg #[.int .i64 c0,.int .i64 c1,.int .i64 c2,.int .i64 c3,.slice a1 n1 a3,.slice a2 n2 a4],.agg #[.int .i64 q0,.int .i64 q1,.int .i64 q2,.int .i64 q3,.int .i64 q4,.int .i64 q5,.string q6,.string q7,.int .i64 q8,.string q9]] w (NewBookOut (doS ⟨c0,c1,c2,c3,ts,is⟩ ⟨q0,q1,q2,q3,q4,q5,q6,q7,q8,q9⟩) w):=by
 have hl1 : ts.length = n1:=h.t.len
 have hl2 : is.length = n2:=h.i.len
 have hsz:=book_sizes hb
 dsimp only at hsz
 have hn1 : n1 <= 5:=by rw [<- hl1];exact hsz.1
 have hn2 : n2 <= 8:=by rw [<- hl2];exact hsz.2.1
 clear hsz
 obtain ⟨W,hW⟩ : ∃ W,W = ((w.alloc (.cells #[.int .i64 c0,.int .i64 c1,.int .i64 c2,.int .i64 c3,.slice a1 n1 a3,.slice a2 n2 a4] 28)).alloc (.cells #[.int .i64 q0,.int .i64 q1,.int .i64 q2,.int .i64 q3,.int .i64 q4,.int .i64 q5,.string q6,.string q7,.int .i64 q8,.string q9] 34)).alloc (.cells #[.int .i64 0,.int .i64 0,.int .i64 0,.int .i64 0,.slice none 0 0,.slice none 0 0,.int .i64 0] 46):=⟨_,rfl⟩
 have HB0 : Hid (Below w.heap.size w W):=qH (by rw [hW];repeat' (first | exact Below.refl _ _ | refine Below.alloc ?_ (by first | exact Nat.le_refl _ | (simp;done) | (simp;omega)) _))
 have HAb : Hid (BoxC W w.heap.size [.int .i64 c0,.int .i64 c1,.int .i64 c2,.int .i64 c3,.slice a1 n1 a3,.slice a2 n2 a4]):=qH (by rw [hW];exact ((BoxC.made _ _ _).alloc _).alloc _)
 have HAd : Hid (BoxC W (w.heap.size + 1) [.int .i64 q0,.int .i64 q1,.int .i64 q2,.int .i64 q3,.int .i64 q4,.int .i64 q5,.string q6,.string q7,.int .i64 q8,.string q9]):=qH (by rw [hW];have:=(BoxC.made (w.alloc (.cells #[.int .i64 c0,.int .i64 c1,.int .i64 c2,.int .i64 c3,.slice a1 n1 a3,.slice a2 n2 a4] 28)) #[.int .i64 q0,.int .i64 q1,.int .i64 q2,.int .i64 q3,.int .i64 q4,.int .i64 q5,.string q6,.string q7,.int .i64 q8,.string q9] 34).alloc (.cells #[.int .i64 0,.int .i64 0,.int .i64 0,.int .i64 0,.slice none 0 0,.slice none 0 0,.int .i64 0] 46);rwa [World.size_alloc] at this)
 have HAr : Hid (BoxC W (w.heap.size + 1 + 1) [.int .i64 0,.int .i64 0,.int .i64 0,.int .i64 0,.slice none 0 0,.slice none 0 0,.int .i64 0]):=qH (by rw [hW];have:=BoxC.made ((w.alloc (.cells #[.int .i64 c0,.int .i64 c1,.int .i64 c2,.int .i64 c3,.slice a1 n1 a3,.slice a2 n2 a4] 28)).alloc (.cells #[.int .i64 q0,.int .i64 q1,.int .i64 q2,.int .i64 q3,.int .i64 q4,.int .i64 q5,.string q6,.string q7,.int .i64 q8,.string q9] 34)) #[.int .i64 0,.int .i64 0,.int .i64 0,.int .i64 0,.slice none 0 0,.slice none 0 0,.int .i64 0] 46;rwa [World.size_alloc,World.size_alloc] at this)
 have HR:=qH h
 clear h
 go_enter Tryz.func46,Tryz.ntmps46
 go_wp2_with fail
 rw [<- hW]
 clear hW
 refine (l07Zero_any c0 c1 c2 c3 a1 a2 n1 n2 a3 a4 _).mono ?_
 rintro e w1 ⟨rfl,hb1⟩
 have HW1:=qH hb1
 have x0:=(HAb.out.below hb1).cell 0 _ rfl
 have x1:=(HAb.out.below hb1).cell 1 _ rfl
 have x2:=(HAb.out.below hb1).cell 2 _ rfl
 have x3:=(HAb.out.below hb1).cell 3 _ rfl
 have x4:=(HAb.out.below hb1).cell 4 _ rfl
 have x5:=(HAb.out.below hb1).cell 5 _ rfl
 clear hb1
 go_wp2_with fail
 refine (l07Copy_any c0 c1 c2 c3 a1 a2 n1 n2 a3 a4 ts is _ (HR.out.below (HB0.out.trans (HW1.out.mono HB0.out.size))) (by omega) (by omega)).mono ?_
 rintro e w2 ⟨b1,m1,b3,b2,m2,b4,rfl,ho,hb2⟩
 have hm1 : m1 = n1:=ho.len.1.symm.trans hl1
 have hm2 : m2 = n2:=ho.len.2.symm.trans hl2
 rw [hm1,hm2] at ho
 rw [hm1,hm2]
 have HO2:=qH ho
 have HW2:=qH (HW1.out.trans (hb2.mono HW1.out.size))
 clear ho hb2 hm1 hm2 m1 m2 x0 x1 x2 x3 x4 x5
 obtain ⟨V,hV⟩ : ∃ V,V = w2.alloc (.cells #[.int .i64 c0,.int .i64 c1,.int .i64 c2,.int .i64 c3,.slice b1 n1 b3,.slice b2 n2 b4] 28):=⟨_,rfl⟩
 have HVW : Hid (Below W.heap.size W V):=qH (by rw [hV];exact HW2.out.alloc HW2.out.size _)
 have HVB : Hid (Below w.heap.size w V):=qH (HB0.out.trans (HVW.out.mono HB0.out.size))
 have HVo : Hid (BoxC V w2.heap.size [.int .i64 c0,.int .i64 c1,.int .i64 c2,.int .i64 c3,.slice b1 n1 b3,.slice b2 n2 b4]):=qH (by rw [hV];exact BoxC.made _ _ _)
 have HVT : Hid (V.ownsRow W.heap.size 30 tmE.k (.slice b1 n1 b3) n1 (tmE.flat ts)):=qH (by rw [hV];exact World.ownsRow.alloc (own_mono HO2.out.t HW1.out.size) _)
 have HVI : Hid (V.ownsRow W.heap.size 32 imE.k (.slice b2 n2 b4) n2 (imE.flat is)):=qH (by rw [hV];exact World.ownsRow.alloc (own_mono HO2.out.i HW1.out.size) _)
 have HVb:=qH (HAb.out.below HVW.out)
 have HVd:=qH (HAd.out.below HVW.out)
 have HVr:=qH (HAr.out.below HVW.out)
 have HTL : Hid (∀ q,(Value.slice b1 n1 b3).ownBlock = some q -> q < w2.heap.size):=qH (fun q hq => (HO2.out.t.lt q hq).2)
 have HIL : Hid (∀ q,(Value.slice b2 n2 b4).ownBlock = some q -> q < w2.heap.size):=qH (fun q hq => (HO2.out.i.lt q hq).2)
 have HWS : Hid (w.heap.size + 1 + 1 < W.heap.size):=qH HAr.out.lt
 have HWT : Hid (W.heap.size <= w2.heap.size):=qH HW2.out.size
 have hne1 : ¬ w2.heap.size = w.heap.size + 1 + 1:=by have:=HWS.out;have:=HWT.out;omega
 have hne2 : ¬ w.heap.size + 1 + 1 = w2.heap.size:=by have:=HWS.out;have:=HWT.out;omega
 go_upto_region 3 with fail
 rw [<- hV]
 clear hV
 have x4:=HVb.out.cell 4 _ rfl
 have d0:=HVd.out.cell 0 _ rfl
 have hZK : zeroK ⟨c0,c1,c2,c3,ts,is⟩ = zeroB c0 c1 c2 c3 n1 n2:=by unfold zeroK;dsimp only;rw [hl1,hl2]
 have hwn : IntKind.i64.wrap (n1 : Int) = (n1 : Int):=IntWalk.i64_in _ (by omega)
 by_cases k1 : q0 = 1
 · subst k1
   have d1:=HVd.out.cell 1 _ rfl
   have d2:=HVd.out.cell 2 _ rfl
   have d3:=HVd.out.cell 3 _ rfl
   have d4:=HVd.out.cell 4 _ rfl
   have o0:=HVo.out.cell 0 _ rfl
   have o1:=HVo.out.cell 1 _ rfl
   have o2:=HVo.out.cell 2 _ rfl
   have o3:=HVo.out.cell 3 _ rfl
   have o4:=HVo.out.cell 4 _ rfl
   have o5:=HVo.out.cell 5 _ rfl
   have p0:=HVo.out.free 0
   have p1:=HVo.out.free 1
   have p2:=HVo.out.free 2
   have p3:=HVo.out.free 3
   have p4:=HVo.out.free 4
   cases hz : zeroB c0 c1 c2 c3 n1 n2
   · have HD : Hid (doS ⟨c0,c1,c2,c3,ts,is⟩ ⟨1,q1,q2,q3,q4,q5,q6,q7,q8,q9⟩ = (⟨q1,q2,q3,q4,ts,is⟩,0)):=qH (by unfold doS;rw [if_pos rfl,hZK,hz];rfl)
     have z0:=HVr.out.cell 0 _ rfl
     have f0:=HVr.out.free 0
     have z1:=HVr.out.cell 1 _ rfl
     have f1:=HVr.out.free 1
     have z2:=HVr.out.cell 2 _ rfl
     have f2:=HVr.out.free 2
     have z3:=HVr.out.cell 3 _ rfl
     have f3:=HVr.out.free 3
     have z4:=HVr.out.cell 4 _ rfl
     have f4:=HVr.out.free 4
     have z5:=HVr.out.cell 5 _ rfl
     have f5:=HVr.out.free 5
     have z6:=HVr.out.cell 6 _ rfl
     have f6:=HVr.out.free 6
     have hY:=(((((((((((HVr.out.other ⟨w2.heap.size,0,none⟩ (.int .i64 q1) (by dsimp only;omega)).other ⟨w2.heap.size,1,none⟩ (.int .i64 q2) (by dsimp only;omega)).other ⟨w2.heap.size,2,none⟩ (.int .i64 q3) (by dsimp only;omega)).other ⟨w2.heap.size,3,none⟩ (.int .i64 q4) (by dsimp only;omega)).set (j:=0) (by simp) (.int .i64 q1)).set (j:=1) (by simp) (.int .i64 q2)).set (j:=2) (by simp) (.int .i64 q3)).set (j:=3) (by simp) (.int .i64 q4)).set (j:=4) (by simp) (.slice b1 n1 b3)).set (j:=5) (by simp) (.slice b2 n2 b4)).set (j:=6) (by simp) (.int .i64 0))
     have HYB:=qH (((((((((((HVB.out.setCell (p:=⟨w2.heap.size,0,none⟩) (by dsimp only;have:=HWS.out;have:=HWT.out;omega) (.int .i64 q1)).setCell (p:=⟨w2.heap.size,1,none⟩) (by dsimp only;have:=HWS.out;have:=HWT.out;omega) (.int .i64 q2)).setCell (p:=⟨w2.heap.size,2,none⟩) (by dsimp only;have:=HWS.out;have:=HWT.out;omega) (.int .i64 q3)).setCell (p:=⟨w2.heap.size,3,none⟩) (by dsimp only;have:=HWS.out;have:=HWT.out;omega) (.int .i64 q4)).setCell (p:=⟨w.heap.size + 1 + 1,0,none⟩) (by dsimp only;omega) (.int .i64 q1)).setCell (p:=⟨w.heap.size + 1 + 1,1,none⟩) (by dsimp only;omega) (.int .i64 q2)).setCell (p:=⟨w.heap.size + 1 + 1,2,none⟩) (by dsimp only;omega) (.int .i64 q3)).setCell (p:=⟨w.heap.size + 1 + 1,3,none⟩) (by dsimp only;omega) (.int .i64 q4)).setCell (p:=⟨w.heap.size + 1 + 1,4,none⟩) (by dsimp only;omega) (.slice b1 n1 b3)).setCell (p:=⟨w.heap.size + 1 + 1,5,none⟩) (by dsimp only;omega) (.slice b2 n2 b4)).setCell (p:=⟨w.heap.size + 1 + 1,6,none⟩) (by dsimp only;omega) (.int .i64 0))
     obtain ⟨Y,hYd⟩ : ∃ Y,Y = ((((((((((V.setCell ⟨w2.heap.size,0,none⟩ (.int .i64 q1)).setCell ⟨w2.heap.size,1,none⟩ (.int .i64 q2)).setCell ⟨w2.heap.size,2,none⟩ (.int .i64 q3)).setCell ⟨w2.heap.size,3,none⟩ (.int .i64 q4)).setCell ⟨w.heap.size + 1 + 1,0,none⟩ (.int .i64 q1)).setCell ⟨w.heap.size + 1 + 1,1,none⟩ (.int .i64 q2)).setCell ⟨w.heap.size + 1 + 1,2,none⟩ (.int .i64 q3)).setCell ⟨w.heap.size + 1 + 1,3,none⟩ (.int .i64 q4)).setCell ⟨w.heap.size + 1 + 1,4,none⟩ (.slice b1 n1 b3)).setCell ⟨w.heap.size + 1 + 1,5,none⟩ (.slice b2 n2 b4)).setCell ⟨w.heap.size + 1 + 1,6,none⟩ (.int .i64 0):=⟨_,rfl⟩
     have HYT : Hid (Y.ownsRow w.heap.size 30 tmE.k (.slice b1 n1 b3) n1 (tmE.flat ts)):=qH (by rw [hYd];exact (own_other (own_other (own_other (own_other (own_other (own_other (own_other (own_other (own_other (own_other (own_other (own_mono HVT.out (show w.heap.size <= W.heap.size from HB0.out.size)) (b:=w2.heap.size) (fun q hq => by have:=HTL.out q hq;omega) ⟨w2.heap.size,0,none⟩ (.int .i64 q1) rfl) (b:=w2.heap.size) (fun q hq => by have:=HTL.out q hq;omega) ⟨w2.heap.size,1,none⟩ (.int .i64 q2) rfl) (b:=w2.heap.size) (fun q hq => by have:=HTL.out q hq;omega) ⟨w2.heap.size,2,none⟩ (.int .i64 q3) rfl) (b:=w2.heap.size) (fun q hq => by have:=HTL.out q hq;omega) ⟨w2.heap.size,3,none⟩ (.int .i64 q4) rfl) (b:=w.heap.size + 1 + 1) (fun q hq => by have:=(HVT.out.lt q hq).1;have:=HWS.out;omega) ⟨w.heap.size + 1 + 1,0,none⟩ (.int .i64 q1) rfl) (b:=w.heap.size + 1 + 1) (fun q hq => by have:=(HVT.out.lt q hq).1;have:=HWS.out;omega) ⟨w.heap.size + 1 + 1,1,none⟩ (.int .i64 q2) rfl) (b:=w.heap.size + 1 + 1) (fun q hq => by have:=(HVT.out.lt q hq).1;have:=HWS.out;omega) ⟨w.heap.size + 1 + 1,2,none⟩ (.int .i64 q3) rfl) (b:=w.heap.size + 1 + 1) (fun q hq => by have:=(HVT.out.lt q hq).1;have:=HWS.out;omega) ⟨w.heap.size + 1 + 1,3,none⟩ (.int .i64 q4) rfl) (b:=w.heap.size + 1 + 1) (fun q hq => by have:=(HVT.out.lt q hq).1;have:=HWS.out;omega) ⟨w.heap.size + 1 + 1,4,none⟩ (.slice b1 n1 b3) rfl) (b:=w.heap.size + 1 + 1) (fun q hq => by have:=(HVT.out.lt q hq).1;have:=HWS.out;omega) ⟨w.heap.size + 1 + 1,5,none⟩ (.slice b2 n2 b4) rfl) (b:=w.heap.size + 1 + 1) (fun q hq => by have:=(HVT.out.lt q hq).1;have:=HWS.out;omega) ⟨w.heap.size + 1 + 1,6,none⟩ (.int .i64 0) rfl))
     have HYI : Hid (Y.ownsRow w.heap.size 32 imE.k (.slice b2 n2 b4) n2 (imE.flat is)):=qH (by rw [hYd];exact (own_other (own_other (own_other (own_other (own_other (own_other (own_other (own_other (own_other (own_other (own_other (own_mono HVI.out (show w.heap.size <= W.heap.size from HB0.out.size)) (b:=w2.heap.size) (fun q hq => by have:=HIL.out q hq;omega) ⟨w2.heap.size,0,none⟩ (.int .i64 q1) rfl) (b:=w2.heap.size) (fun q hq => by have:=HIL.out q hq;omega) ⟨w2.heap.size,1,none⟩ (.int .i64 q2) rfl) (b:=w2.heap.size) (fun q hq => by have:=HIL.out q hq;omega) ⟨w2.heap.size,2,none⟩ (.int .i64 q3) rfl) (b:=w2.heap.size) (fun q hq => by have:=HIL.out q hq;omega) ⟨w2.heap.size,3,none⟩ (.int .i64 q4) rfl) (b:=w.heap.size + 1 + 1) (fun q hq => by have:=(HVI.out.lt q hq).1;have:=HWS.out;omega) ⟨w.heap.size + 1 + 1,0,none⟩ (.int .i64 q1) rfl) (b:=w.heap.size + 1 + 1) (fun q hq => by have:=(HVI.out.lt q hq).1;have:=HWS.out;omega) ⟨w.heap.size + 1 + 1,1,none⟩ (.int .i64 q2) rfl) (b:=w.heap.size + 1 + 1) (fun q hq => by have:=(HVI.out.lt q hq).1;have:=HWS.out;omega) ⟨w.heap.size + 1 + 1,2,none⟩ (.int .i64 q3) rfl) (b:=w.heap.size + 1 + 1) (fun q hq => by have:=(HVI.out.lt q hq).1;have:=HWS.out;omega) ⟨w.heap.size + 1 + 1,3,none⟩ (.int .i64 q4) rfl) (b:=w.heap.size + 1 + 1) (fun q hq => by have:=(HVI.out.lt q hq).1;have:=HWS.out;omega) ⟨w.heap.size + 1 + 1,4,none⟩ (.slice b1 n1 b3) rfl) (b:=w.heap.size + 1 + 1) (fun q hq => by have:=(HVI.out.lt q hq).1;have:=HWS.out;omega) ⟨w.heap.size + 1 + 1,5,none⟩ (.slice b2 n2 b4) rfl) (b:=w.heap.size + 1 + 1) (fun q hq => by have:=(HVI.out.lt q hq).1;have:=HWS.out;omega) ⟨w.heap.size + 1 + 1,6,none⟩ (.int .i64 0) rfl))
     rw [<- hYd] at hY HYB
     have g0:=hY.cell 0 _ rfl
     have g1:=hY.cell 1 _ rfl
     have g2:=hY.cell 2 _ rfl
     have g3:=hY.cell 3 _ rfl
     have g4:=hY.cell 4 _ rfl
     have g5:=hY.cell 5 _ rfl
     have g6:=hY.cell 6 _ rfl
     have HG:=qH (And.intro g0 (And.intro g1 (And.intro g2 (And.intro g3 (And.intro g4 (And.intro g5 g6))))))
     have HYD:=qH hYd
     clear hY hYd g0 g1 g2 g3 g4 g5 g6
     go_wp2_with fail
     rw [<- HYD.out]
     obtain ⟨g0,g1,g2,g3,g4,g5,g6⟩:=HG.out
     clear z0 f0 z1 f1 z2 f2 z3 f3 z4 f4 z5 f5 z6 f6
     exact bodyPost_ret (v:=.agg #[.int .i64 q1,.int .i64 q2,.int .i64 q3,.int .i64 q4,.slice b1 n1 b3,.slice b2 n2 b4,.int .i64 0]) (by simp [results,Tryz.results46,go_sem,g0,g1,g2,g3,g4,g5,g6]) rfl (by rw [HD.out];exact ⟨b1,n1,b3,b2,n2,b4,rfl,⟨HYT.out,HYI.out⟩,HYB.out⟩)
   · have HD : Hid (doS ⟨c0,c1,c2,c3,ts,is⟩ ⟨1,q1,q2,q3,q4,q5,q6,q7,q8,q9⟩ = (⟨q1,q2,q3,q4,[⟨1,⟨#[120]⟩⟩],is⟩,0)):=qH (by unfold doS;rw [if_pos rfl,hZK,hz];rfl)
     go_upto_region 6 with fail
     have hCo:=((((HVo.out.set (j:=0) (by simp) (.int .i64 q1)).set (j:=1) (by simp) (.int .i64 q2)).set (j:=2) (by simp) (.int .i64 q3)).set (j:=3) (by simp) (.int .i64 q4))
     have hCr:=((((HVr.out.other ⟨w2.heap.size,0,none⟩ (.int .i64 q1) (by dsimp only;omega)).other ⟨w2.heap.size,1,none⟩ (.int .i64 q2) (by dsimp only;omega)).other ⟨w2.heap.size,2,none⟩ (.int .i64 q3) (by dsimp only;omega)).other ⟨w2.heap.size,3,none⟩ (.int .i64 q4) (by dsimp only;omega))
     have hCB:=((((HVB.out.setCell (p:=⟨w2.heap.size,0,none⟩) (by dsimp only;have:=HWS.out;have:=HWT.out;omega) (.int .i64 q1)).setCell (p:=⟨w2.heap.size,1,none⟩) (by dsimp only;have:=HWS.out;have:=HWT.out;omega) (.int .i64 q2)).setCell (p:=⟨w2.heap.size,2,none⟩) (by dsimp only;have:=HWS.out;have:=HWT.out;omega) (.int .i64 q3)).setCell (p:=⟨w2.heap.size,3,none⟩) (by dsimp only;have:=HWS.out;have:=HWT.out;omega) (.int .i64 q4))
     have hCI:=(own_other (own_other (own_other (own_other (own_mono HVI.out (show w.heap.size <= W.heap.size from HB0.out.size)) (b:=w2.heap.size) (fun q hq => by have:=HIL.out q hq;omega) ⟨w2.heap.size,0,none⟩ (.int .i64 q1) rfl) (b:=w2.heap.size) (fun q hq => by have:=HIL.out q hq;omega) ⟨w2.heap.size,1,none⟩ (.int .i64 q2) rfl) (b:=w2.heap.size) (fun q hq => by have:=HIL.out q hq;omega) ⟨w2.heap.size,2,none⟩ (.int .i64 q3) rfl) (b:=w2.heap.size) (fun q hq => by have:=HIL.out q hq;omega) ⟨w2.heap.size,3,none⟩ (.int .i64 q4) rfl)
     generalize ((((V.setCell ⟨w2.heap.size,0,none⟩ (.int .i64 q1)).setCell ⟨w2.heap.size,1,none⟩ (.int .i64 q2)).setCell ⟨w2.heap.size,2,none⟩ (.int .i64 q3)).setCell ⟨w2.heap.size,3,none⟩ (.int .i64 q4)) = C at *
     have HCo:=qH hCo
     have HCr:=qH hCr
     have HCB:=qH hCB
     have HCI:=qH hCI
     clear hCo hCr hCB hCI o0 o1 o2 o3 o4 o5 p0 p1 p2 p3 p4 d0 d1 d2 d3 d4 x4
     have hxo:=HCo.out.alloc (.cells #[.int .i64 1,.string ⟨#[120]⟩] 30)
     have hxr:=qH (HCr.out.alloc (.cells #[.int .i64 1,.string ⟨#[120]⟩] 30))
     have hxB:=qH (HCB.out.alloc HCB.out.size (.cells #[.int .i64 1,.string ⟨#[120]⟩] 30))
     have hxI:=qH (World.ownsRow.alloc HCI.out (.cells #[.int .i64 1,.string ⟨#[120]⟩] 30))
     have hxT : Hid ((C.alloc (.cells #[.int .i64 1,.string ⟨#[120]⟩] 30)).ownsRow C.heap.size 30 tmE.k (.slice (some ⟨C.heap.size,0,none⟩) 1 1) 1 (tmE.flat [⟨1,⟨#[120]⟩⟩])):=qH (World.ownsRow_lit C #[.int .i64 1,.string ⟨#[120]⟩] 1 (Nat.le_refl _) (by decide) rfl)
     have HOC:=qH HCo.out.lt
     have o0:=hxo.cell 0 _ rfl
     have o1:=hxo.cell 1 _ rfl
     have o2:=hxo.cell 2 _ rfl
     have o3:=hxo.cell 3 _ rfl
     have o4:=hxo.cell 4 _ rfl
     have o5:=hxo.cell 5 _ rfl
     have p4:=hxo.free 4
     clear hxo
     have z0:=hxr.out.cell 0 _ rfl
     have f0:=hxr.out.free 0
     have z1:=hxr.out.cell 1 _ rfl
     have f1:=hxr.out.free 1
     have z2:=hxr.out.cell 2 _ rfl
     have f2:=hxr.out.free 2
     have z3:=hxr.out.cell 3 _ rfl
     have f3:=hxr.out.free 3
     have z4:=hxr.out.cell 4 _ rfl
     have f4:=hxr.out.free 4
     have z5:=hxr.out.cell 5 _ rfl
     have f5:=hxr.out.free 5
     have z6:=hxr.out.cell 6 _ rfl
     have f6:=hxr.out.free 6
     have hY:=((((((((hxr.out.other ⟨w2.heap.size,4,none⟩ (.slice (some ⟨C.heap.size,0,none⟩) 1 1) (by dsimp only;omega)).set (j:=0) (by simp) (.int .i64 q1)).set (j:=1) (by simp) (.int .i64 q2)).set (j:=2) (by simp) (.int .i64 q3)).set (j:=3) (by simp) (.int .i64 q4)).set (j:=4) (by simp) (.slice (some ⟨C.heap.size,0,none⟩) 1 1)).set (j:=5) (by simp) (.slice b2 n2 b4)).set (j:=6) (by simp) (.int .i64 0))
     have HYB:=qH ((((((((hxB.out.setCell (p:=⟨w2.heap.size,4,none⟩) (by dsimp only;have:=HWS.out;have:=HWT.out;omega) (.slice (some ⟨C.heap.size,0,none⟩) 1 1)).setCell (p:=⟨w.heap.size + 1 + 1,0,none⟩) (by dsimp only;omega) (.int .i64 q1)).setCell (p:=⟨w.heap.size + 1 + 1,1,none⟩) (by dsimp only;omega) (.int .i64 q2)).setCell (p:=⟨w.heap.size + 1 + 1,2,none⟩) (by dsimp only;omega) (.int .i64 q3)).setCell (p:=⟨w.heap.size + 1 + 1,3,none⟩) (by dsimp only;omega) (.int .i64 q4)).setCell (p:=⟨w.heap.size + 1 + 1,4,none⟩) (by dsimp only;omega) (.slice (some ⟨C.heap.size,0,none⟩) 1 1)).setCell (p:=⟨w.heap.size + 1 + 1,5,none⟩) (by dsimp only;omega) (.slice b2 n2 b4)).setCell (p:=⟨w.heap.size + 1 + 1,6,none⟩) (by dsimp only;omega) (.int .i64 0))
     obtain ⟨Y,hYd⟩ : ∃ Y,Y = ((((((((C.alloc (.cells #[.int .i64 1,.string ⟨#[120]⟩] 30)).setCell ⟨w2.heap.size,4,none⟩ (.slice (some ⟨C.heap.size,0,none⟩) 1 1)).setCell ⟨w.heap.size + 1 + 1,0,none⟩ (.int .i64 q1)).setCell ⟨w.heap.size + 1 + 1,1,none⟩ (.int .i64 q2)).setCell ⟨w.heap.size + 1 + 1,2,none⟩ (.int .i64 q3)).setCell ⟨w.heap.size + 1 + 1,3,none⟩ (.int .i64 q4)).setCell ⟨w.heap.size + 1 + 1,4,none⟩ (.slice (some ⟨C.heap.size,0,none⟩) 1 1)).setCell ⟨w.heap.size + 1 + 1,5,none⟩ (.slice b2 n2 b4)).setCell ⟨w.heap.size + 1 + 1,6,none⟩ (.int .i64 0):=⟨_,rfl⟩
     have HYT : Hid (Y.ownsRow w.heap.size 30 tmE.k (.slice (some ⟨C.heap.size,0,none⟩) 1 1) 1 (tmE.flat [⟨1,⟨#[120]⟩⟩])):=qH (by rw [hYd];exact (own_other (own_other (own_other (own_other (own_other (own_other (own_other (own_other (own_mono hxT.out HCB.out.size) (b:=w2.heap.size) (fun q hq => by have:=(hxT.out.lt q hq).1;have:=HOC.out;omega) ⟨w2.heap.size,4,none⟩ (.slice (some ⟨C.heap.size,0,none⟩) 1 1) rfl) (b:=w.heap.size + 1 + 1) (fun q hq => by have:=(hxT.out.lt q hq).1;have:=HOC.out;have:=HWS.out;have:=HWT.out;omega) ⟨w.heap.size + 1 + 1,0,none⟩ (.int .i64 q1) rfl) (b:=w.heap.size + 1 + 1) (fun q hq => by have:=(hxT.out.lt q hq).1;have:=HOC.out;have:=HWS.out;have:=HWT.out;omega) ⟨w.heap.size + 1 + 1,1,none⟩ (.int .i64 q2) rfl) (b:=w.heap.size + 1 + 1) (fun q hq => by have:=(hxT.out.lt q hq).1;have:=HOC.out;have:=HWS.out;have:=HWT.out;omega) ⟨w.heap.size + 1 + 1,2,none⟩ (.int .i64 q3) rfl) (b:=w.heap.size + 1 + 1) (fun q hq => by have:=(hxT.out.lt q hq).1;have:=HOC.out;have:=HWS.out;have:=HWT.out;omega) ⟨w.heap.size + 1 + 1,3,none⟩ (.int .i64 q4) rfl) (b:=w.heap.size + 1 + 1) (fun q hq => by have:=(hxT.out.lt q hq).1;have:=HOC.out;have:=HWS.out;have:=HWT.out;omega) ⟨w.heap.size + 1 + 1,4,none⟩ (.slice (some ⟨C.heap.size,0,none⟩) 1 1) rfl) (b:=w.heap.size + 1 + 1) (fun q hq => by have:=(hxT.out.lt q hq).1;have:=HOC.out;have:=HWS.out;have:=HWT.out;omega) ⟨w.heap.size + 1 + 1,5,none⟩ (.slice b2 n2 b4) rfl) (b:=w.heap.size + 1 + 1) (fun q hq => by have:=(hxT.out.lt q hq).1;have:=HOC.out;have:=HWS.out;have:=HWT.out;omega) ⟨w.heap.size + 1 + 1,6,none⟩ (.int .i64 0) rfl))
     have HYI : Hid (Y.ownsRow w.heap.size 32 imE.k (.slice b2 n2 b4) n2 (imE.flat is)):=qH (by rw [hYd];exact (own_other (own_other (own_other (own_other (own_other (own_other (own_other (own_other hxI.out (b:=w2.heap.size) (fun q hq => by have:=HIL.out q hq;omega) ⟨w2.heap.size,4,none⟩ (.slice (some ⟨C.heap.size,0,none⟩) 1 1) rfl) (b:=w.heap.size + 1 + 1) (fun q hq => by have:=(HVI.out.lt q hq).1;have:=HWS.out;omega) ⟨w.heap.size + 1 + 1,0,none⟩ (.int .i64 q1) rfl) (b:=w.heap.size + 1 + 1) (fun q hq => by have:=(HVI.out.lt q hq).1;have:=HWS.out;omega) ⟨w.heap.size + 1 + 1,1,none⟩ (.int .i64 q2) rfl) (b:=w.heap.size + 1 + 1) (fun q hq => by have:=(HVI.out.lt q hq).1;have:=HWS.out;omega) ⟨w.heap.size + 1 + 1,2,none⟩ (.int .i64 q3) rfl) (b:=w.heap.size + 1 + 1) (fun q hq => by have:=(HVI.out.lt q hq).1;have:=HWS.out;omega) ⟨w.heap.size + 1 + 1,3,none⟩ (.int .i64 q4) rfl) (b:=w.heap.size + 1 + 1) (fun q hq => by have:=(HVI.out.lt q hq).1;have:=HWS.out;omega) ⟨w.heap.size + 1 + 1,4,none⟩ (.slice (some ⟨C.heap.size,0,none⟩) 1 1) rfl) (b:=w.heap.size + 1 + 1) (fun q hq => by have:=(HVI.out.lt q hq).1;have:=HWS.out;omega) ⟨w.heap.size + 1 + 1,5,none⟩ (.slice b2 n2 b4) rfl) (b:=w.heap.size + 1 + 1) (fun q hq => by have:=(HVI.out.lt q hq).1;have:=HWS.out;omega) ⟨w.heap.size + 1 + 1,6,none⟩ (.int .i64 0) rfl))
     rw [<- hYd] at hY HYB
     have g0:=hY.cell 0 _ rfl
     have g1:=hY.cell 1 _ rfl
     have g2:=hY.cell 2 _ rfl
     have g3:=hY.cell 3 _ rfl
     have g4:=hY.cell 4 _ rfl
     have g5:=hY.cell 5 _ rfl
     have g6:=hY.cell 6 _ rfl
     have HG:=qH (And.intro g0 (And.intro g1 (And.intro g2 (And.intro g3 (And.intro g4 (And.intro g5 g6))))))
     have HYD:=qH hYd
     clear hY hYd g0 g1 g2 g3 g4 g5 g6
     go_wp2_with fail
     rw [<- HYD.out]
     obtain ⟨g0,g1,g2,g3,g4,g5,g6⟩:=HG.out
     clear z0 f0 z1 f1 z2 f2 z3 f3 z4 f4 z5 f5 z6 f6
     exact bodyPost_ret (v:=.agg #[.int .i64 q1,.int .i64 q2,.int .i64 q3,.int .i64 q4,.slice (some ⟨C.heap.size,0,none⟩) 1 1,.slice b2 n2 b4,.int .i64 0]) (by simp [results,Tryz.results46,go_sem,g0,g1,g2,g3,g4,g5,g6]) rfl (by rw [HD.out];exact ⟨_,1,1,b2,n2,b4,rfl,⟨HYT.out,HYI.out⟩,HYB.out⟩)
 · have k1b : (q0 == 1) = false:=by rw [beq_eq_false_iff_ne];exact k1
   cases hz : zeroB c0 c1 c2 c3 n1 n2
   · by_cases k2 : q0 = 2
     · subst k2
       have hw1 : IntKind.i64.wrap ((n1 : Int) + 1) = (n1 : Int) + 1:=IntWalk.i64_in _ (by omega)
       have hno : 1 <= q5 /\ q5 <= 5:=by
        unfold deedB at hd
        rw [if_neg (by decide),if_pos rfl,Bool.and_eq_true,Bool.and_eq_true] at hd
        exact (termB_iff.1 hd.1.2).1
       have hds : doS ⟨c0,c1,c2,c3,ts,is⟩ ⟨2,q1,q2,q3,q4,q5,q6,q7,q8,q9⟩ = (if (n1 : Int) + 1 < q5 then (bk0,6) else if q5 = (n1 : Int) + 1 then (⟨c0,c1,c2,c3,ts ++ [⟨q5,q6⟩],is⟩,0) else (⟨c0,c1,c2,c3,ts.set (q5.toNat - 1) ⟨q5,q6⟩,is⟩,0)):=by
        unfold doS;dsimp only;rw [if_neg (by decide),hZK,hz,if_neg (by decide),if_pos rfl,hl1]
       have d5:=HVd.out.cell 5 _ rfl
       have d6:=HVd.out.cell 6 _ rfl
       have o0:=HVo.out.cell 0 _ rfl
       have o1:=HVo.out.cell 1 _ rfl
       have o2:=HVo.out.cell 2 _ rfl
       have o3:=HVo.out.cell 3 _ rfl
       have o4:=HVo.out.cell 4 _ rfl
       have o5:=HVo.out.cell 5 _ rfl
       obtain ⟨i1,hi1,hz1,hs1,hy1⟩:=info_parts infoTerm
       by_cases j1 : (n1 : Int) + 1 < q5
       · have HD : Hid (doS ⟨c0,c1,c2,c3,ts,is⟩ ⟨2,q1,q2,q3,q4,q5,q6,q7,q8,q9⟩ = (bk0,6)):=qH (by rw [hds,if_pos j1])
         clear hds
         go_wp2_with fail
         refine (l07Ill_any 6 _).mono ?_
         rintro e w3 ⟨rfl,hb⟩
         have hz3:=HVr.out.below hb
         have HB3:=qH (HVB.out.trans (hb.mono HVB.out.size))
         clear hb
         have z0:=hz3.cell 0 _ rfl
         have f0:=hz3.free 0
         have z1:=hz3.cell 1 _ rfl
         have f1:=hz3.free 1
         have z2:=hz3.cell 2 _ rfl
         have f2:=hz3.free 2
         have z3:=hz3.cell 3 _ rfl
         have f3:=hz3.free 3
         have z4:=hz3.cell 4 _ rfl
         have f4:=hz3.free 4
         have z5:=hz3.cell 5 _ rfl
         have f5:=hz3.free 5
         have z6:=hz3.cell 6 _ rfl
         have f6:=hz3.free 6
         have hY:=(((((((hz3.set (j:=0) (by simp) (.int .i64 0)).set (j:=1) (by simp) (.int .i64 0)).set (j:=2) (by simp) (.int .i64 0)).set (j:=3) (by simp) (.int .i64 0)).set (j:=4) (by simp) (.slice none 0 0)).set (j:=5) (by simp) (.slice none 0 0)).set (j:=6) (by simp) (.int .i64 6))
         have HYB:=qH (((((((HB3.out.setCell (p:=⟨w.heap.size + 1 + 1,0,none⟩) (by dsimp only;omega) (.int .i64 0)).setCell (p:=⟨w.heap.size + 1 + 1,1,none⟩) (by dsimp only;omega) (.int .i64 0)).setCell (p:=⟨w.heap.size + 1 + 1,2,none⟩) (by dsimp only;omega) (.int .i64 0)).setCell (p:=⟨w.heap.size + 1 + 1,3,none⟩) (by dsimp only;omega) (.int .i64 0)).setCell (p:=⟨w.heap.size + 1 + 1,4,none⟩) (by dsimp only;omega) (.slice none 0 0)).setCell (p:=⟨w.heap.size + 1 + 1,5,none⟩) (by dsimp only;omega) (.slice none 0 0)).setCell (p:=⟨w.heap.size + 1 + 1,6,none⟩) (by dsimp only;omega) (.int .i64 6))
         obtain ⟨Y,hYd⟩ : ∃ Y,Y = ((((((w3.setCell ⟨w.heap.size + 1 + 1,0,none⟩ (.int .i64 0)).setCell ⟨w.heap.size + 1 + 1,1,none⟩ (.int .i64 0)).setCell ⟨w.heap.size + 1 + 1,2,none⟩ (.int .i64 0)).setCell ⟨w.heap.size + 1 + 1,3,none⟩ (.int .i64 0)).setCell ⟨w.heap.size + 1 + 1,4,none⟩ (.slice none 0 0)).setCell ⟨w.heap.size + 1 + 1,5,none⟩ (.slice none 0 0)).setCell ⟨w.heap.size + 1 + 1,6,none⟩ (.int .i64 6):=⟨_,rfl⟩
         rw [<- hYd] at hY HYB
         have g0:=hY.cell 0 _ rfl
         have g1:=hY.cell 1 _ rfl
         have g2:=hY.cell 2 _ rfl
         have g3:=hY.cell 3 _ rfl
         have g4:=hY.cell 4 _ rfl
         have g5:=hY.cell 5 _ rfl
         have g6:=hY.cell 6 _ rfl
         have HG:=qH (And.intro g0 (And.intro g1 (And.intro g2 (And.intro g3 (And.intro g4 (And.intro g5 g6))))))
         have HYD:=qH hYd
         clear hY hYd g0 g1 g2 g3 g4 g5 g6
         go_wp2_with fail
         rw [<- HYD.out]
         obtain ⟨g0,g1,g2,g3,g4,g5,g6⟩:=HG.out
         clear z0 f0 z1 f1 z2 f2 z3 f3 z4 f4 z5 f5 z6 f6
         exact bodyPost_ret (v:=.agg #[.int .i64 0,.int .i64 0,.int .i64 0,.int .i64 0,.slice none 0 0,.slice none 0 0,.int .i64 6]) (by simp [results,Tryz.results46,go_sem,g0,g1,g2,g3,g4,g5,g6]) rfl (by rw [HD.out];exact ⟨none,0,0,none,0,0,rfl,⟨World.ownsRow_nil _ _ _ _,World.ownsRow_nil _ _ _ _⟩,HYB.out⟩)
       · by_cases j2 : q5 = (n1 : Int) + 1
         · have HD : Hid (doS ⟨c0,c1,c2,c3,ts,is⟩ ⟨2,q1,q2,q3,q4,q5,q6,q7,q8,q9⟩ = (⟨c0,c1,c2,c3,ts ++ [⟨q5,q6⟩],is⟩,0)):=qH (by rw [hds,if_neg j1,if_pos j2])
           have j2b : (q5 == (n1 : Int) + 1) = true:=by rw [j2];simp
           have hj2:=qH j2
           clear hds j2
           have HXB : Hid (Below V.heap.size V (V.alloc (.cells #[.int .i64 q5,.string q6] 30))):=qH ((Below.refl _ _).alloc (Nat.le_refl _) _)
           have HXT:=qH (own_below HVT.out HXB.out)
           have HXI:=qH (own_below HVI.out HXB.out)
           have HXo:=qH (HVo.out.below HXB.out)
           have HXr:=qH (HVr.out.below HXB.out)
           have HXW:=qH (HVB.out.trans (HXB.out.mono HVB.out.size))
           have HXL : Hid (SR tmE tmD (V.alloc (.cells #[.int .i64 q5,.string q6] 30)) (some ⟨V.heap.size,0,none⟩) 1 1 [⟨q5,q6⟩]):=qH (SR.own (by decide) (World.ownsRow_lit V #[.int .i64 q5,.string q6] 1 (Nat.le_refl _) (by decide) rfl))
           have HXS : Hid (W.heap.size <= (V.alloc (.cells #[.int .i64 q5,.string q6] 30)).heap.size):=qH (Nat.le_trans HVW.out.size HXB.out.size)
           go_wp2_with (at_builtin;refine append_wl tmE tmD rfl _ _ 25 rfl 30 i1 _ 24 Tryz.underlying25 hi1 hz1 hs1 hy1 rfl (by decide) (by decide) W.heap.size _ n1 ts rfl HXT.out _ 1 1 [(⟨q5,q6⟩ : Tm)] rfl HXL.out HXS.out (by omega) (by omega) ?_;intro v3 u3 O3 G3;have HO3:=qH O3;have HBo3:=qH (HXo.out.grown G3 (fun e => Nat.lt_irrefl _ (HTL.out _ e.symm)));have HBr3:=qH (HXr.out.grown G3 (fun e => by have:=(HVT.out.lt _ e.symm).1;have:=HWS.out;omega));have HI3:=qH (own_grown HXI.out G3 (own_types HXI.out HXT.out (by decide)));have HB3:=qH (HXW.out.grown G3 HXW.out.size (fun q hq => by have:=(HVT.out.lt q hq).1;have:=HWS.out;omega));obtain ⟨a5,c5,rfl⟩:=own_shape HO3.out;clear O3 G3 d0 d5 d6 o0 o1 o2 o3 o4 o5 x4;have o0:=HBo3.out.cell 0 _ rfl;have o1:=HBo3.out.cell 1 _ rfl;have o2:=HBo3.out.cell 2 _ rfl;have o3:=HBo3.out.cell 3 _ rfl;have o4:=HBo3.out.cell 4 _ rfl;have o5:=HBo3.out.cell 5 _ rfl;have p4:=HBo3.out.free 4;have z0:=HBr3.out.cell 0 _ rfl;have f0:=HBr3.out.free 0;have z1:=HBr3.out.cell 1 _ rfl;have f1:=HBr3.out.free 1;have z2:=HBr3.out.cell 2 _ rfl;have f2:=HBr3.out.free 2;have z3:=HBr3.out.cell 3 _ rfl;have f3:=HBr3.out.free 3;have z4:=HBr3.out.cell 4 _ rfl;have f4:=HBr3.out.free 4;have z5:=HBr3.out.cell 5 _ rfl;have f5:=HBr3.out.free 5;have z6:=HBr3.out.cell 6 _ rfl;have f6:=HBr3.out.free 6)
           have HTQ : Hid (∀ q,(Value.slice a5 (n1 + 1) c5).ownBlock = some q -> q ≠ w2.heap.size /\ q ≠ w.heap.size + 1 + 1):=qH (fun q hq => ⟨row_apart HO3.out (by omega) (HBo3.out.cell 1 _ rfl) q hq,by have:=(HO3.out.lt q hq).1;have:=HWS.out;omega⟩)
           have hY:=((((((((HBr3.out.other ⟨w2.heap.size,4,none⟩ (.slice a5 (n1 + 1) c5) (by dsimp only;omega)).set (j:=0) (by simp) (.int .i64 c0)).set (j:=1) (by simp) (.int .i64 c1)).set (j:=2) (by simp) (.int .i64 c2)).set (j:=3) (by simp) (.int .i64 c3)).set (j:=4) (by simp) (.slice a5 (n1 + 1) c5)).set (j:=5) (by simp) (.slice b2 n2 b4)).set (j:=6) (by simp) (.int .i64 0))
           have HYB:=qH ((((((((HB3.out.setCell (p:=⟨w2.heap.size,4,none⟩) (by dsimp only;have:=HWS.out;have:=HWT.out;omega) (.slice a5 (n1 + 1) c5)).setCell (p:=⟨w.heap.size + 1 + 1,0,none⟩) (by dsimp only;omega) (.int .i64 c0)).setCell (p:=⟨w.heap.size + 1 + 1,1,none⟩) (by dsimp only;omega) (.int .i64 c1)).setCell (p:=⟨w.heap.size + 1 + 1,2,none⟩) (by dsimp only;omega) (.int .i64 c2)).setCell (p:=⟨w.heap.size + 1 + 1,3,none⟩) (by dsimp only;omega) (.int .i64 c3)).setCell (p:=⟨w.heap.size + 1 + 1,4,none⟩) (by dsimp only;omega) (.slice a5 (n1 + 1) c5)).setCell (p:=⟨w.heap.size + 1 + 1,5,none⟩) (by dsimp only;omega) (.slice b2 n2 b4)).setCell (p:=⟨w.heap.size + 1 + 1,6,none⟩) (by dsimp only;omega) (.int .i64 0))
           obtain ⟨Y,hYd⟩ : ∃ Y,Y = (((((((u3.setCell ⟨w2.heap.size,4,none⟩ (.slice a5 (n1 + 1) c5)).setCell ⟨w.heap.size + 1 + 1,0,none⟩ (.int .i64 c0)).setCell ⟨w.heap.size + 1 + 1,1,none⟩ (.int .i64 c1)).setCell ⟨w.heap.size + 1 + 1,2,none⟩ (.int .i64 c2)).setCell ⟨w.heap.size + 1 + 1,3,none⟩ (.int .i64 c3)).setCell ⟨w.heap.size + 1 + 1,4,none⟩ (.slice a5 (n1 + 1) c5)).setCell ⟨w.heap.size + 1 + 1,5,none⟩ (.slice b2 n2 b4)).setCell ⟨w.heap.size + 1 + 1,6,none⟩ (.int .i64 0):=⟨_,rfl⟩
           have HYT : Hid (Y.ownsRow w.heap.size 30 tmE.k (.slice a5 (n1 + 1) c5) (n1 + 1) (tmE.flat (ts ++ [⟨q5,q6⟩]))):=qH (by rw [hYd];exact (own_other (own_other (own_other (own_other (own_other (own_other (own_other (own_other (own_mono HO3.out HB0.out.size) (b:=w2.heap.size) (fun q hq => (HTQ.out q hq).1) ⟨w2.heap.size,4,none⟩ (.slice a5 (n1 + 1) c5) rfl) (b:=w.heap.size + 1 + 1) (fun q hq => (HTQ.out q hq).2) ⟨w.heap.size + 1 + 1,0,none⟩ (.int .i64 c0) rfl) (b:=w.heap.size + 1 + 1) (fun q hq => (HTQ.out q hq).2) ⟨w.heap.size + 1 + 1,1,none⟩ (.int .i64 c1) rfl) (b:=w.heap.size + 1 + 1) (fun q hq => (HTQ.out q hq).2) ⟨w.heap.size + 1 + 1,2,none⟩ (.int .i64 c2) rfl) (b:=w.heap.size + 1 + 1) (fun q hq => (HTQ.out q hq).2) ⟨w.heap.size + 1 + 1,3,none⟩ (.int .i64 c3) rfl) (b:=w.heap.size + 1 + 1) (fun q hq => (HTQ.out q hq).2) ⟨w.heap.size + 1 + 1,4,none⟩ (.slice a5 (n1 + 1) c5) rfl) (b:=w.heap.size + 1 + 1) (fun q hq => (HTQ.out q hq).2) ⟨w.heap.size + 1 + 1,5,none⟩ (.slice b2 n2 b4) rfl) (b:=w.heap.size + 1 + 1) (fun q hq => (HTQ.out q hq).2) ⟨w.heap.size + 1 + 1,6,none⟩ (.int .i64 0) rfl))
           have HYI : Hid (Y.ownsRow w.heap.size 32 imE.k (.slice b2 n2 b4) n2 (imE.flat is)):=qH (by rw [hYd];exact (own_other (own_other (own_other (own_other (own_other (own_other (own_other (own_other (own_mono HI3.out HB0.out.size) (b:=w2.heap.size) (fun q hq => by have:=HIL.out q hq;omega) ⟨w2.heap.size,4,none⟩ (.slice a5 (n1 + 1) c5) rfl) (b:=w.heap.size + 1 + 1) (fun q hq => by have:=(HVI.out.lt q hq).1;have:=HWS.out;omega) ⟨w.heap.size + 1 + 1,0,none⟩ (.int .i64 c0) rfl) (b:=w.heap.size + 1 + 1) (fun q hq => by have:=(HVI.out.lt q hq).1;have:=HWS.out;omega) ⟨w.heap.size + 1 + 1,1,none⟩ (.int .i64 c1) rfl) (b:=w.heap.size + 1 + 1) (fun q hq => by have:=(HVI.out.lt q hq).1;have:=HWS.out;omega) ⟨w.heap.size + 1 + 1,2,none⟩ (.int .i64 c2) rfl) (b:=w.heap.size + 1 + 1) (fun q hq => by have:=(HVI.out.lt q hq).1;have:=HWS.out;omega) ⟨w.heap.size + 1 + 1,3,none⟩ (.int .i64 c3) rfl) (b:=w.heap.size + 1 + 1) (fun q hq => by have:=(HVI.out.lt q hq).1;have:=HWS.out;omega) ⟨w.heap.size + 1 + 1,4,none⟩ (.slice a5 (n1 + 1) c5) rfl) (b:=w.heap.size + 1 + 1) (fun q hq => by have:=(HVI.out.lt q hq).1;have:=HWS.out;omega) ⟨w.heap.size + 1 + 1,5,none⟩ (.slice b2 n2 b4) rfl) (b:=w.heap.size + 1 + 1) (fun q hq => by have:=(HVI.out.lt q hq).1;have:=HWS.out;omega) ⟨w.heap.size + 1 + 1,6,none⟩ (.int .i64 0) rfl))
           rw [<- hYd] at hY HYB
           have g0:=hY.cell 0 _ rfl
           have g1:=hY.cell 1 _ rfl
           have g2:=hY.cell 2 _ rfl
           have g3:=hY.cell 3 _ rfl
           have g4:=hY.cell 4 _ rfl
           have g5:=hY.cell 5 _ rfl
           have g6:=hY.cell 6 _ rfl
           have HG:=qH (And.intro g0 (And.intro g1 (And.intro g2 (And.intro g3 (And.intro g4 (And.intro g5 g6))))))
           have HYD:=qH hYd
           clear hY hYd g0 g1 g2 g3 g4 g5 g6
           rw [<- HYD.out]
           obtain ⟨g0,g1,g2,g3,g4,g5,g6⟩:=HG.out
           clear z0 f0 z1 f1 z2 f2 z3 f3 z4 f4 z5 f5 z6 f6
           exact bodyPost_ret (v:=.agg #[.int .i64 c0,.int .i64 c1,.int .i64 c2,.int .i64 c3,.slice a5 (n1 + 1) c5,.slice b2 n2 b4,.int .i64 0]) (by simp [results,Tryz.results46,go_sem,g0,g1,g2,g3,g4,g5,g6]) rfl (by rw [HD.out];exact ⟨a5,n1 + 1,c5,b2,n2,b4,rfl,⟨HYT.out,HYI.out⟩,HYB.out⟩)
         · have HD : Hid (doS ⟨c0,c1,c2,c3,ts,is⟩ ⟨2,q1,q2,q3,q4,q5,q6,q7,q8,q9⟩ = (⟨c0,c1,c2,c3,ts.set (q5.toNat - 1) ⟨q5,q6⟩,is⟩,0)):=qH (by rw [hds,if_neg j1,if_neg j2])
           have j2b : (q5 == (n1 : Int) + 1) = false:=by rw [beq_eq_false_iff_ne];exact j2
           clear hds
           obtain ⟨i,hi⟩ : ∃ i : Nat,(i : Int) = q5 - 1:=⟨(q5 - 1).toNat,by omega⟩
           have hit : q5.toNat - 1 = i:=by omega
           have hin : 0 <= (i : Int) /\ (i : Int) < (n1 : Int):=by omega
           have hil : i < n1:=by omega
           have hsub : IntKind.i64.wrap (q5 - 1) = (i : Int):=by rw [IntWalk.i64_in _ (by omega)];omega
           rw [hit] at HD
           obtain ⟨g,rfl⟩ : ∃ g,b1 = some ⟨g,0,none⟩:=by
            rcases HVT.out.2 with ⟨_,h0⟩ | ⟨g,cap,cur,hv,_⟩
            · omega
            · simp only [Value.slice.injEq] at hv;exact ⟨g,hv.1⟩
           clear hi hit j2
           obtain ⟨g',o',hge,_,t0,t1⟩:=TmR.at (TmR.own HVT.out) hil
           simp only [Option.some.injEq,Addr.mk.injEq,and_true] at hge
           obtain ⟨rfl,rfl⟩:=hge
           rw [Nat.zero_add] at t0 t1
           have k0:=HVT.out.frozenAt (i * 2)
           have k1:=HVT.out.frozenAt (i * 2 + 1)
           have hst:=TmR.stored HVT.out hil q5 q6
           have HST:=qH hst.1
           clear hst
           have hg1 : ¬ g = w2.heap.size:=by have:=HTL.out g rfl;omega
           have hg2 : ¬ w2.heap.size = g:=fun e => hg1 e.symm
           have hg3 : ¬ g = w.heap.size + 1 + 1:=by have:=(HVT.out.lt g rfl).1;have:=HWS.out;omega
           have hg4 : ¬ w.heap.size + 1 + 1 = g:=fun e => hg3 e.symm
           have HGB:=qH (HVT.out.lt g rfl).1
           have z0:=HVr.out.cell 0 _ rfl
           have f0:=HVr.out.free 0
           have z1:=HVr.out.cell 1 _ rfl
           have f1:=HVr.out.free 1
           have z2:=HVr.out.cell 2 _ rfl
           have f2:=HVr.out.free 2
           have z3:=HVr.out.cell 3 _ rfl
           have f3:=HVr.out.free 3
           have z4:=HVr.out.cell 4 _ rfl
           have f4:=HVr.out.free 4
           have z5:=HVr.out.cell 5 _ rfl
           have f5:=HVr.out.free 5
           have z6:=HVr.out.cell 6 _ rfl
           have f6:=HVr.out.free 6
           have hY:=(((((((((HVr.out.other ⟨g,i * 2,none⟩ (.int .i64 q5) (by dsimp only;omega)).other ⟨g,i * 2 + 1,none⟩ (.string q6) (by dsimp only;omega)).set (j:=0) (by simp) (.int .i64 c0)).set (j:=1) (by simp) (.int .i64 c1)).set (j:=2) (by simp) (.int .i64 c2)).set (j:=3) (by simp) (.int .i64 c3)).set (j:=4) (by simp) (.slice (some ⟨g,0,none⟩) n1 b3)).set (j:=5) (by simp) (.slice b2 n2 b4)).set (j:=6) (by simp) (.int .i64 0))
           have HYB:=qH (((((((((HVB.out.setCell (p:=⟨g,i * 2,none⟩) (by dsimp only;have:=HGB.out;have:=HWS.out;omega) (.int .i64 q5)).setCell (p:=⟨g,i * 2 + 1,none⟩) (by dsimp only;have:=HGB.out;have:=HWS.out;omega) (.string q6)).setCell (p:=⟨w.heap.size + 1 + 1,0,none⟩) (by dsimp only;omega) (.int .i64 c0)).setCell (p:=⟨w.heap.size + 1 + 1,1,none⟩) (by dsimp only;omega) (.int .i64 c1)).setCell (p:=⟨w.heap.size + 1 + 1,2,none⟩) (by dsimp only;omega) (.int .i64 c2)).setCell (p:=⟨w.heap.size + 1 + 1,3,none⟩) (by dsimp only;omega) (.int .i64 c3)).setCell (p:=⟨w.heap.size + 1 + 1,4,none⟩) (by dsimp only;omega) (.slice (some ⟨g,0,none⟩) n1 b3)).setCell (p:=⟨w.heap.size + 1 + 1,5,none⟩) (by dsimp only;omega) (.slice b2 n2 b4)).setCell (p:=⟨w.heap.size + 1 + 1,6,none⟩) (by dsimp only;omega) (.int .i64 0))
           obtain ⟨Y,hYd⟩ : ∃ Y,Y = ((((((((V.setCell ⟨g,i * 2,none⟩ (.int .i64 q5)).setCell ⟨g,i * 2 + 1,none⟩ (.string q6)).setCell ⟨w.heap.size + 1 + 1,0,none⟩ (.int .i64 c0)).setCell ⟨w.heap.size + 1 + 1,1,none⟩ (.int .i64 c1)).setCell ⟨w.heap.size + 1 + 1,2,none⟩ (.int .i64 c2)).setCell ⟨w.heap.size + 1 + 1,3,none⟩ (.int .i64 c3)).setCell ⟨w.heap.size + 1 + 1,4,none⟩ (.slice (some ⟨g,0,none⟩) n1 b3)).setCell ⟨w.heap.size + 1 + 1,5,none⟩ (.slice b2 n2 b4)).setCell ⟨w.heap.size + 1 + 1,6,none⟩ (.int .i64 0):=⟨_,rfl⟩
           have HYT : Hid (Y.ownsRow w.heap.size 30 tmE.k (.slice (some ⟨g,0,none⟩) n1 b3) n1 (tmE.flat (ts.set i ⟨q5,q6⟩))):=qH (by rw [hYd];exact (own_other (own_other (own_other (own_other (own_other (own_other (own_other (own_mono HST.out (show w.heap.size <= W.heap.size from HB0.out.size)) (b:=w.heap.size + 1 + 1) (fun q hq => by have:=(HVT.out.lt q hq).1;have:=HWS.out;omega) ⟨w.heap.size + 1 + 1,0,none⟩ (.int .i64 c0) rfl) (b:=w.heap.size + 1 + 1) (fun q hq => by have:=(HVT.out.lt q hq).1;have:=HWS.out;omega) ⟨w.heap.size + 1 + 1,1,none⟩ (.int .i64 c1) rfl) (b:=w.heap.size + 1 + 1) (fun q hq => by have:=(HVT.out.lt q hq).1;have:=HWS.out;omega) ⟨w.heap.size + 1 + 1,2,none⟩ (.int .i64 c2) rfl) (b:=w.heap.size + 1 + 1) (fun q hq => by have:=(HVT.out.lt q hq).1;have:=HWS.out;omega) ⟨w.heap.size + 1 + 1,3,none⟩ (.int .i64 c3) rfl) (b:=w.heap.size + 1 + 1) (fun q hq => by have:=(HVT.out.lt q hq).1;have:=HWS.out;omega) ⟨w.heap.size + 1 + 1,4,none⟩ (.slice (some ⟨g,0,none⟩) n1 b3) rfl) (b:=w.heap.size + 1 + 1) (fun q hq => by have:=(HVT.out.lt q hq).1;have:=HWS.out;omega) ⟨w.heap.size + 1 + 1,5,none⟩ (.slice b2 n2 b4) rfl) (b:=w.heap.size + 1 + 1) (fun q hq => by have:=(HVT.out.lt q hq).1;have:=HWS.out;omega) ⟨w.heap.size + 1 + 1,6,none⟩ (.int .i64 0) rfl))
           have HYI : Hid (Y.ownsRow w.heap.size 32 imE.k (.slice b2 n2 b4) n2 (imE.flat is)):=qH (by rw [hYd];exact (own_other (own_other (own_other (own_other (own_other (own_other (own_other (own_other (own_other (own_mono HVI.out (show w.heap.size <= W.heap.size from HB0.out.size)) (b:=g) (fun q hq => by have:=(own_types HVI.out HVT.out (by decide)) q hq;intro e;subst e;exact this rfl) ⟨g,i * 2,none⟩ (.int .i64 q5) rfl) (b:=g) (fun q hq => by have:=(own_types HVI.out HVT.out (by decide)) q hq;intro e;subst e;exact this rfl) ⟨g,i * 2 + 1,none⟩ (.string q6) rfl) (b:=w.heap.size + 1 + 1) (fun q hq => by have:=(HVI.out.lt q hq).1;have:=HWS.out;omega) ⟨w.heap.size + 1 + 1,0,none⟩ (.int .i64 c0) rfl) (b:=w.heap.size + 1 + 1) (fun q hq => by have:=(HVI.out.lt q hq).1;have:=HWS.out;omega) ⟨w.heap.size + 1 + 1,1,none⟩ (.int .i64 c1) rfl) (b:=w.heap.size + 1 + 1) (fun q hq => by have:=(HVI.out.lt q hq).1;have:=HWS.out;omega) ⟨w.heap.size + 1 + 1,2,none⟩ (.int .i64 c2) rfl) (b:=w.heap.size + 1 + 1) (fun q hq => by have:=(HVI.out.lt q hq).1;have:=HWS.out;omega) ⟨w.heap.size + 1 + 1,3,none⟩ (.int .i64 c3) rfl) (b:=w.heap.size + 1 + 1) (fun q hq => by have:=(HVI.out.lt q hq).1;have:=HWS.out;omega) ⟨w.heap.size + 1 + 1,4,none⟩ (.slice (some ⟨g,0,none⟩) n1 b3) rfl) (b:=w.heap.size + 1 + 1) (fun q hq => by have:=(HVI.out.lt q hq).1;have:=HWS.out;omega) ⟨w.heap.size + 1 + 1,5,none⟩ (.slice b2 n2 b4) rfl) (b:=w.heap.size + 1 + 1) (fun q hq => by have:=(HVI.out.lt q hq).1;have:=HWS.out;omega) ⟨w.heap.size + 1 + 1,6,none⟩ (.int .i64 0) rfl))
           rw [<- hYd] at hY HYB
           have g0:=hY.cell 0 _ rfl
           have g1:=hY.cell 1 _ rfl
           have g2:=hY.cell 2 _ rfl
           have g3:=hY.cell 3 _ rfl
           have g4:=hY.cell 4 _ rfl
           have g5:=hY.cell 5 _ rfl
           have g6:=hY.cell 6 _ rfl
           have HG:=qH (And.intro g0 (And.intro g1 (And.intro g2 (And.intro g3 (And.intro g4 (And.intro g5 g6))))))
           have HYD:=qH hYd
           clear hY hYd g0 g1 g2 g3 g4 g5 g6
           go_wp2_with fail
           rw [<- HYD.out]
           obtain ⟨g0,g1,g2,g3,g4,g5,g6⟩:=HG.out
           clear z0 f0 z1 f1 z2 f2 z3 f3 z4 f4 z5 f5 z6 f6
           exact bodyPost_ret (v:=.agg #[.int .i64 c0,.int .i64 c1,.int .i64 c2,.int .i64 c3,.slice (some ⟨g,0,none⟩) n1 b3,.slice b2 n2 b4,.int .i64 0]) (by simp [results,Tryz.results46,go_sem,g0,g1,g2,g3,g4,g5,g6]) rfl (by rw [HD.out];exact ⟨some ⟨g,0,none⟩,n1,b3,b2,n2,b4,rfl,⟨HYT.out,HYI.out⟩,HYB.out⟩)
     · have k2b : (q0 == 2) = false:=by rw [beq_eq_false_iff_ne];exact k2
       have HD : Hid (doS ⟨c0,c1,c2,c3,ts,is⟩ ⟨q0,q1,q2,q3,q4,q5,q6,q7,q8,q9⟩ = itemsR ⟨c0,c1,c2,c3,ts,is⟩ ⟨q0,q1,q2,q3,q4,q5,q6,q7,q8,q9⟩):=qH (by unfold doS;rw [if_neg k1,hZK,hz,if_neg (by decide),if_neg k2])
       have hkd : q0 = 3 ∨ q0 = 4:=by
        by_cases k3 : q0 = 3
        · exact .inl k3
        · by_cases k4 : q0 = 4
          · exact .inr k4
          · unfold deedB at hd
            rw [if_neg k1,if_neg k2,if_neg k3,if_neg k4] at hd
            cases hd
       have d1:=HVd.out.cell 1 _ rfl
       have d2:=HVd.out.cell 2 _ rfl
       have d3:=HVd.out.cell 3 _ rfl
       have d4:=HVd.out.cell 4 _ rfl
       have d5:=HVd.out.cell 5 _ rfl
       have d6:=HVd.out.cell 6 _ rfl
       have d7:=HVd.out.cell 7 _ rfl
       have d8:=HVd.out.cell 8 _ rfl
       have d9:=HVd.out.cell 9 _ rfl
       have x0:=HVb.out.cell 0 _ rfl
       have x1:=HVb.out.cell 1 _ rfl
       have x2:=HVb.out.cell 2 _ rfl
       have x3:=HVb.out.cell 3 _ rfl
       have x5:=HVb.out.cell 5 _ rfl
       go_wp2_with fail
       refine (l07Items_any c0 c1 c2 c3 ts is q0 q1 q2 q3 q4 q5 q6 q7 q8 q9 a1 a2 n1 n2 a3 a4 _ (HR.out.below HVB.out) hn1 hn2 hkd).mono ?_
       rintro e w4 hnb
       rw [<- HD.out] at hnb
       generalize doS ⟨c0,c1,c2,c3,ts,is⟩ ⟨q0,q1,q2,q3,q4,q5,q6,q7,q8,q9⟩ = r at *
       obtain ⟨e1,m1,e3,e2,m2,e4,rfl,ho,hb4⟩:=hnb
       have HBO:=qH ho
       have HB4:=qH (HVB.out.trans (hb4.mono HVB.out.size))
       have hz3:=HVr.out.below hb4
       have HVS:=qH (show W.heap.size <= V.heap.size from HVW.out.size)
       clear ho hb4 d0 d1 d2 d3 d4 d5 d6 d7 d8 d9 x0 x1 x2 x3 x4 x5
       have z0:=hz3.cell 0 _ rfl
       have f0:=hz3.free 0
       have z1:=hz3.cell 1 _ rfl
       have f1:=hz3.free 1
       have z2:=hz3.cell 2 _ rfl
       have f2:=hz3.free 2
       have z3:=hz3.cell 3 _ rfl
       have f3:=hz3.free 3
       have z4:=hz3.cell 4 _ rfl
       have f4:=hz3.free 4
       have z5:=hz3.cell 5 _ rfl
       have f5:=hz3.free 5
       have z6:=hz3.cell 6 _ rfl
       have f6:=hz3.free 6
       have hY:=(((((((hz3.set (j:=0) (by simp) (.int .i64 r.1.c0)).set (j:=1) (by simp) (.int .i64 r.1.c1)).set (j:=2) (by simp) (.int .i64 r.1.c2)).set (j:=3) (by simp) (.int .i64 r.1.c3)).set (j:=4) (by simp) (.slice e1 m1 e3)).set (j:=5) (by simp) (.slice e2 m2 e4)).set (j:=6) (by simp) (.int .i64 r.2))
       have HYB:=qH (((((((HB4.out.setCell (p:=⟨w.heap.size + 1 + 1,0,none⟩) (by dsimp only;omega) (.int .i64 r.1.c0)).setCell (p:=⟨w.heap.size + 1 + 1,1,none⟩) (by dsimp only;omega) (.int .i64 r.1.c1)).setCell (p:=⟨w.heap.size + 1 + 1,2,none⟩) (by dsimp only;omega) (.int .i64 r.1.c2)).setCell (p:=⟨w.heap.size + 1 + 1,3,none⟩) (by dsimp only;omega) (.int .i64 r.1.c3)).setCell (p:=⟨w.heap.size + 1 + 1,4,none⟩) (by dsimp only;omega) (.slice e1 m1 e3)).setCell (p:=⟨w.heap.size + 1 + 1,5,none⟩) (by dsimp only;omega) (.slice e2 m2 e4)).setCell (p:=⟨w.heap.size + 1 + 1,6,none⟩) (by dsimp only;omega) (.int .i64 r.2))
       obtain ⟨Y,hYd⟩ : ∃ Y,Y = ((((((w4.setCell ⟨w.heap.size + 1 + 1,0,none⟩ (.int .i64 r.1.c0)).setCell ⟨w.heap.size + 1 + 1,1,none⟩ (.int .i64 r.1.c1)).setCell ⟨w.heap.size + 1 + 1,2,none⟩ (.int .i64 r.1.c2)).setCell ⟨w.heap.size + 1 + 1,3,none⟩ (.int .i64 r.1.c3)).setCell ⟨w.heap.size + 1 + 1,4,none⟩ (.slice e1 m1 e3)).setCell ⟨w.heap.size + 1 + 1,5,none⟩ (.slice e2 m2 e4)).setCell ⟨w.heap.size + 1 + 1,6,none⟩ (.int .i64 r.2):=⟨_,rfl⟩
       have HYT : Hid (Y.ownsRow w.heap.size 30 tmE.k (.slice e1 m1 e3) m1 (tmE.flat r.1.ts)):=qH (by rw [hYd];exact (own_other (own_other (own_other (own_other (own_other (own_other (own_other (own_mono HBO.out.t (show w.heap.size <= V.heap.size from HVB.out.size)) (b:=w.heap.size + 1 + 1) (fun q hq => by have:=(HBO.out.t.lt q hq).1;have:=HWS.out;have:=HVS.out;omega) ⟨w.heap.size + 1 + 1,0,none⟩ (.int .i64 r.1.c0) rfl) (b:=w.heap.size + 1 + 1) (fun q hq => by have:=(HBO.out.t.lt q hq).1;have:=HWS.out;have:=HVS.out;omega) ⟨w.heap.size + 1 + 1,1,none⟩ (.int .i64 r.1.c1) rfl) (b:=w.heap.size + 1 + 1) (fun q hq => by have:=(HBO.out.t.lt q hq).1;have:=HWS.out;have:=HVS.out;omega) ⟨w.heap.size + 1 + 1,2,none⟩ (.int .i64 r.1.c2) rfl) (b:=w.heap.size + 1 + 1) (fun q hq => by have:=(HBO.out.t.lt q hq).1;have:=HWS.out;have:=HVS.out;omega) ⟨w.heap.size + 1 + 1,3,none⟩ (.int .i64 r.1.c3) rfl) (b:=w.heap.size + 1 + 1) (fun q hq => by have:=(HBO.out.t.lt q hq).1;have:=HWS.out;have:=HVS.out;omega) ⟨w.heap.size + 1 + 1,4,none⟩ (.slice e1 m1 e3) rfl) (b:=w.heap.size + 1 + 1) (fun q hq => by have:=(HBO.out.t.lt q hq).1;have:=HWS.out;have:=HVS.out;omega) ⟨w.heap.size + 1 + 1,5,none⟩ (.slice e2 m2 e4) rfl) (b:=w.heap.size + 1 + 1) (fun q hq => by have:=(HBO.out.t.lt q hq).1;have:=HWS.out;have:=HVS.out;omega) ⟨w.heap.size + 1 + 1,6,none⟩ (.int .i64 r.2) rfl))
       have HYI : Hid (Y.ownsRow w.heap.size 32 imE.k (.slice e2 m2 e4) m2 (imE.flat r.1.is)):=qH (by rw [hYd];exact (own_other (own_other (own_other (own_other (own_other (own_other (own_other (own_mono HBO.out.i (show w.heap.size <= V.heap.size from HVB.out.size)) (b:=w.heap.size + 1 + 1) (fun q hq => by have:=(HBO.out.i.lt q hq).1;have:=HWS.out;have:=HVS.out;omega) ⟨w.heap.size + 1 + 1,0,none⟩ (.int .i64 r.1.c0) rfl) (b:=w.heap.size + 1 + 1) (fun q hq => by have:=(HBO.out.i.lt q hq).1;have:=HWS.out;have:=HVS.out;omega) ⟨w.heap.size + 1 + 1,1,none⟩ (.int .i64 r.1.c1) rfl) (b:=w.heap.size + 1 + 1) (fun q hq => by have:=(HBO.out.i.lt q hq).1;have:=HWS.out;have:=HVS.out;omega) ⟨w.heap.size + 1 + 1,2,none⟩ (.int .i64 r.1.c2) rfl) (b:=w.heap.size + 1 + 1) (fun q hq => by have:=(HBO.out.i.lt q hq).1;have:=HWS.out;have:=HVS.out;omega) ⟨w.heap.size + 1 + 1,3,none⟩ (.int .i64 r.1.c3) rfl) (b:=w.heap.size + 1 + 1) (fun q hq => by have:=(HBO.out.i.lt q hq).1;have:=HWS.out;have:=HVS.out;omega) ⟨w.heap.size + 1 + 1,4,none⟩ (.slice e1 m1 e3) rfl) (b:=w.heap.size + 1 + 1) (fun q hq => by have:=(HBO.out.i.lt q hq).1;have:=HWS.out;have:=HVS.out;omega) ⟨w.heap.size + 1 + 1,5,none⟩ (.slice e2 m2 e4) rfl) (b:=w.heap.size + 1 + 1) (fun q hq => by have:=(HBO.out.i.lt q hq).1;have:=HWS.out;have:=HVS.out;omega) ⟨w.heap.size + 1 + 1,6,none⟩ (.int .i64 r.2) rfl))
       rw [<- hYd] at hY HYB
       have g0:=hY.cell 0 _ rfl
       have g1:=hY.cell 1 _ rfl
       have g2:=hY.cell 2 _ rfl
       have g3:=hY.cell 3 _ rfl
       have g4:=hY.cell 4 _ rfl
       have g5:=hY.cell 5 _ rfl
       have g6:=hY.cell 6 _ rfl
       have HG:=qH (And.intro g0 (And.intro g1 (And.intro g2 (And.intro g3 (And.intro g4 (And.intro g5 g6))))))
       have HYD:=qH hYd
       clear hY hYd g0 g1 g2 g3 g4 g5 g6
       go_wp2_with fail
       rw [<- HYD.out]
       obtain ⟨g0,g1,g2,g3,g4,g5,g6⟩:=HG.out
       clear z0 f0 z1 f1 z2 f2 z3 f3 z4 f4 z5 f5 z6 f6
       exact bodyPost_ret (v:=.agg #[.int .i64 r.1.c0,.int .i64 r.1.c1,.int .i64 r.1.c2,.int .i64 r.1.c3,.slice e1 m1 e3,.slice e2 m2 e4,.int .i64 r.2]) (by simp [results,Tryz.results46,go_sem,g0,g1,g2,g3,g4,g5,g6]) rfl ⟨e1,m1,e3,e2,m2,e4,rfl,⟨HYT.out,HYI.out⟩,HYB.out⟩
   · have HD : Hid (doS ⟨c0,c1,c2,c3,ts,is⟩ ⟨q0,q1,q2,q3,q4,q5,q6,q7,q8,q9⟩ = (bk0,10)):=qH (by unfold doS;rw [if_neg k1,hZK,hz,if_pos rfl])
     go_wp2_with fail
     refine (l07Ill_any 10 _).mono ?_
     rintro e w3 ⟨rfl,hb⟩
     have hz3:=HVr.out.below hb
     have HB3:=qH (HVB.out.trans (hb.mono HVB.out.size))
     clear hb
     have z0:=hz3.cell 0 _ rfl
     have f0:=hz3.free 0
     have z1:=hz3.cell 1 _ rfl
     have f1:=hz3.free 1
     have z2:=hz3.cell 2 _ rfl
     have f2:=hz3.free 2
     have z3:=hz3.cell 3 _ rfl
     have f3:=hz3.free 3
     have z4:=hz3.cell 4 _ rfl
     have f4:=hz3.free 4
     have z5:=hz3.cell 5 _ rfl
     have f5:=hz3.free 5
     have z6:=hz3.cell 6 _ rfl
     have f6:=hz3.free 6
     have hY:=(((((((hz3.set (j:=0) (by simp) (.int .i64 0)).set (j:=1) (by simp) (.int .i64 0)).set (j:=2) (by simp) (.int .i64 0)).set (j:=3) (by simp) (.int .i64 0)).set (j:=4) (by simp) (.slice none 0 0)).set (j:=5) (by simp) (.slice none 0 0)).set (j:=6) (by simp) (.int .i64 10))
     have HYB:=qH (((((((HB3.out.setCell (p:=⟨w.heap.size + 1 + 1,0,none⟩) (by dsimp only;omega) (.int .i64 0)).setCell (p:=⟨w.heap.size + 1 + 1,1,none⟩) (by dsimp only;omega) (.int .i64 0)).setCell (p:=⟨w.heap.size + 1 + 1,2,none⟩) (by dsimp only;omega) (.int .i64 0)).setCell (p:=⟨w.heap.size + 1 + 1,3,none⟩) (by dsimp only;omega) (.int .i64 0)).setCell (p:=⟨w.heap.size + 1 + 1,4,none⟩) (by dsimp only;omega) (.slice none 0 0)).setCell (p:=⟨w.heap.size + 1 + 1,5,none⟩) (by dsimp only;omega) (.slice none 0 0)).setCell (p:=⟨w.heap.size + 1 + 1,6,none⟩) (by dsimp only;omega) (.int .i64 10))
     obtain ⟨Y,hYd⟩ : ∃ Y,Y = ((((((w3.setCell ⟨w.heap.size + 1 + 1,0,none⟩ (.int .i64 0)).setCell ⟨w.heap.size + 1 + 1,1,none⟩ (.int .i64 0)).setCell ⟨w.heap.size + 1 + 1,2,none⟩ (.int .i64 0)).setCell ⟨w.heap.size + 1 + 1,3,none⟩ (.int .i64 0)).setCell ⟨w.heap.size + 1 + 1,4,none⟩ (.slice none 0 0)).setCell ⟨w.heap.size + 1 + 1,5,none⟩ (.slice none 0 0)).setCell ⟨w.heap.size + 1 + 1,6,none⟩ (.int .i64 10):=⟨_,rfl⟩
     rw [<- hYd] at hY HYB
     have g0:=hY.cell 0 _ rfl
     have g1:=hY.cell 1 _ rfl
     have g2:=hY.cell 2 _ rfl
     have g3:=hY.cell 3 _ rfl
     have g4:=hY.cell 4 _ rfl
     have g5:=hY.cell 5 _ rfl
     have g6:=hY.cell 6 _ rfl
     have HG:=qH (And.intro g0 (And.intro g1 (And.intro g2 (And.intro g3 (And.intro g4 (And.intro g5 g6))))))
     have HYD:=qH hYd
     clear hY hYd g0 g1 g2 g3 g4 g5 g6
     go_wp2_with fail
     rw [<- HYD.out]
     obtain ⟨g0,g1,g2,g3,g4,g5,g6⟩:=HG.out
     clear z0 f0 z1 f1 z2 f2 z3 f3 z4 f4 z5 f5 z6 f6
     exact bodyPost_ret (v:=.agg #[.int .i64 0,.int .i64 0,.int .i64 0,.int .i64 0,.slice none 0 0,.slice none 0 0,.int .i64 10]) (by simp [results,Tryz.results46,go_sem,g0,g1,g2,g3,g4,g5,g6]) rfl (by rw [HD.out];exact ⟨none,0,0,none,0,0,rfl,⟨World.ownsRow_nil _ _ _ _,World.ownsRow_nil _ _ _ _⟩,HYB.out⟩)
end Go.Proofs.YtbgoldeopmlbnaaGreatDoor
