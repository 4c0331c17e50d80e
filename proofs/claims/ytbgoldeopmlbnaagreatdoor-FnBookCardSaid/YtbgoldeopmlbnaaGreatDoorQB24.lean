/- Used by the law. -/
import Derived.WalkLawsBesides
import Derived.Recover
import Derived.BigRegion
import Derived.Test.YtbgoldeopmlbnaaGreatDoorQB07
import Derived.Test.YtbgoldeopmlbnaaGreatDoorQB20
set_option maxRecDepth 100000
set_option maxHeartbeats 16000000
namespace Go.Proofs.YtbgoldeopmlbnaaGreatDoor
open Go.RowKit Go.PlainAid G IRow MNum MJoin
set_option linter.unusedVariables false
theorem catS_three (a b c : ByteArray) : catS [a,b,c] = a ++ b ++ c:=by
 apply ByteArray.ext
 apply Array.toList_inj.1
 simp [catS,catL]
theorem joined_three (a b c : ByteArray) (T : TypeId) (w : World) (ha : a.size <= 1000000) (hb : b.size <= 1000000) (hc : c.size <= 1000000) :
 Calls Tryz.prog 35 #[.slice (some ⟨w.heap.size,0,none⟩) 3 3] (w.alloc (.cells #[.string a,.string b,.string c] T)) fun r w' => r = .returned (.string (a ++ b ++ c)) /\ Below w.heap.size w w':=by
 refine (joined_any w.heap.size 0 3 [a,b,c] (w.alloc (.cells #[.string a,.string b,.string c] T)) (by simp) ?_ (by simp) (by simp [sumL];omega)).mono ?_
 · intro k hk
   match k,hk with
   | 0,_ => simp
   | 1,_ => simp
   | 2,_ => simp
   | k + 3,hk => simp at hk;omega
 · rintro r w' ⟨rfl,hb⟩
   exact ⟨by rw [catS_three],((Below.refl _ _).alloc (Nat.le_refl _) _).trans (hb.mono (by simp))⟩
theorem catS_four (a b c d : ByteArray) : catS [a,b,c,d] = a ++ b ++ c ++ d:=by
 apply ByteArray.ext
 apply Array.toList_inj.1
 simp [catS,catL]
theorem joined_four (a b c d : ByteArray) (T : TypeId) (w : World) (ha : a.size <= 1000000) (hb : b.size <= 1000000) (hc : c.size <= 1000000) (hd : d.size <= 1000000) :
 Calls Tryz.prog 35 #[.slice (some ⟨w.heap.size,0,none⟩) 4 4] (w.alloc (.cells #[.string a,.string b,.string c,.string d] T)) fun r w' => r = .returned (.string (a ++ b ++ c ++ d)) /\ Below w.heap.size w w':=by
 refine (joined_any w.heap.size 0 4 [a,b,c,d] (w.alloc (.cells #[.string a,.string b,.string c,.string d] T)) (by simp) ?_ (by simp) (by simp [sumL];omega)).mono ?_
 · intro k hk
   match k,hk with
   | 0,_ => simp
   | 1,_ => simp
   | 2,_ => simp
   | 3,_ => simp
   | k + 4,hk => simp at hk;omega
 · rintro r w' ⟨rfl,hb⟩
   exact ⟨by rw [catS_four],((Below.refl _ _).alloc (Nat.le_refl _) _).trans (hb.mono (by simp))⟩
theorem putT_size {t : ByteArray} (ht : t.size <= 20) : (putTextS t).size <= 30:=by
 rw [putTextS_short (by omega),ByteArray.size_append]
 have:=(numS_size (t.size : Int)).2
 omega
theorem bytes1_any (q1 q2 q3 q4 : Int) (w : World) (h1 : 1 <= q1 /\ q1 <= 999) (h2 : 1 <= q2 /\ q2 <= 10) (h3 : q2 <= q3 /\ q3 <= 20) (h4 : 0 <= q4 /\ q4 <= 4294967295) :
 Calls Tryz.prog 158 #[.agg #[.int .i64 q1,.int .i64 q2,.int .i64 q3,.int .i64 q4]] w fun e w' => e = .returned (.string (numS q1 ++ numS q2 ++ numS q3 ++ numS q4)) /\ Below w.heap.size w w':=by
 obtain ⟨W,hW⟩ : ∃ W,W = w.alloc (.cells #[.int .i64 q1,.int .i64 q2,.int .i64 q3,.int .i64 q4] 96):=⟨_,rfl⟩
 have HA : Hid (BoxC W w.heap.size [.int .i64 q1,.int .i64 q2,.int .i64 q3,.int .i64 q4]):=qH (by rw [hW];exact BoxC.made _ _ _)
 have HW0 : Hid (Below w.heap.size w W):=qH (by rw [hW];exact (Below.refl _ _).alloc (Nat.le_refl _) _)
 have HC : Hid (∀ u : World,Below W.heap.size W u -> u.cell? ⟨w.heap.size,0,none⟩ = some (.int .i64 q1) /\ u.cell? ⟨w.heap.size,1,none⟩ = some (.int .i64 q2) /\ u.cell? ⟨w.heap.size,2,none⟩ = some (.int .i64 q3) /\ u.cell? ⟨w.heap.size,3,none⟩ = some (.int .i64 q4)):=qH (fun u hu => ⟨(HA.out.below hu).cell 0 _ rfl,(HA.out.below hu).cell 1 _ rfl,(HA.out.below hu).cell 2 _ rfl,(HA.out.below hu).cell 3 _ rfl⟩)
 have P0 : Hid (∀ u,Calls Tryz.prog 31 #[.int .i64 q1] u fun e w' => e = .returned (.string (numS q1)) /\ Below u.heap.size u w'):=qH (fun u => implPutNum_any q1 u (i64_in (by omega) (by omega)))
 have z0:=(numS_size q1).2
 have P1 : Hid (∀ u,Calls Tryz.prog 31 #[.int .i64 q2] u fun e w' => e = .returned (.string (numS q2)) /\ Below u.heap.size u w'):=qH (fun u => implPutNum_any q2 u (i64_in (by omega) (by omega)))
 have z1:=(numS_size q2).2
 have P2 : Hid (∀ u,Calls Tryz.prog 31 #[.int .i64 q3] u fun e w' => e = .returned (.string (numS q3)) /\ Below u.heap.size u w'):=qH (fun u => implPutNum_any q3 u (i64_in (by omega) (by omega)))
 have z2:=(numS_size q3).2
 have P3 : Hid (∀ u,Calls Tryz.prog 31 #[.int .i64 q4] u fun e w' => e = .returned (.string (numS q4)) /\ Below u.heap.size u w'):=qH (fun u => implPutNum_any q4 u (i64_in (by omega) (by omega)))
 have z3:=(numS_size q4).2
 generalize numS q1 = p0 at *
 generalize numS q2 = p1 at *
 generalize numS q3 = p2 at *
 generalize numS q4 = p3 at *
 have HJ : Hid (∀ (u : World),Calls Tryz.prog 35 #[.slice (some ⟨u.heap.size,0,none⟩) 4 4] (u.alloc (.cells #[.string p0,.string p1,.string p2,.string p3] 9)) fun r w' => r = .returned (.string (p0 ++ p1 ++ p2 ++ p3)) /\ Below u.heap.size u w'):=qH (fun u => joined_four p0 p1 p2 p3 _ u (by omega) (by omega) (by omega) (by omega))
 clear HA z0 z1 z2 z3
 have hFn : Below W.heap.size W W.drew:=(Below.refl _ _).drew
 go_enter Tryz.func158,Tryz.ntmps158
 go_wp2_with fail
 rw [<- hW]
 clear hW
 go_region_held3 (fun u => u.cell? ⟨w.heap.size,0,none⟩ = some (.int .i64 q1) /\ u.cell? ⟨w.heap.size,1,none⟩ = some (.int .i64 q2) /\ u.cell? ⟨w.heap.size,2,none⟩ = some (.int .i64 q3) /\ u.cell? ⟨w.heap.size,3,none⟩ = some (.int .i64 q4)) (first | (exact HC.out _ hFn) | (exact HC.out _ (hFn.alloc hFn.size _)))
  (first | (go_at_call 31;(with_reducible refine Calls.mono (P0.out _) ?_);rintro e w1 ⟨rfl,hb⟩;have hFn:=hFn.trans (hb.mono hFn.size);clear hb) | (go_at_call 31;(with_reducible refine Calls.mono (P1.out _) ?_);rintro e w1 ⟨rfl,hb⟩;have hFn:=hFn.trans (hb.mono hFn.size);clear hb) | (go_at_call 31;(with_reducible refine Calls.mono (P2.out _) ?_);rintro e w1 ⟨rfl,hb⟩;have hFn:=hFn.trans (hb.mono hFn.size);clear hb) | (go_at_call 31;(with_reducible refine Calls.mono (P3.out _) ?_);rintro e w1 ⟨rfl,hb⟩;have hFn:=hFn.trans (hb.mono hFn.size);clear hb) | (go_at_call 35;refine Calls.mono (HJ.out _) ?_;rintro e w1 ⟨rfl,hb⟩;have hFn:=hFn.trans (hb.mono hFn.size);clear hb))
 all_goals
  go_wp2_with fail
  go_ret
  exact ⟨rfl,HW0.out.trans (hFn.mono HW0.out.size)⟩
theorem bytes2_any (q5 : Int) (q6 : ByteArray) (w : World) (h5 : 1 <= q5 /\ q5 <= 5) (h6 : q6.size <= 16) :
 Calls Tryz.prog 162 #[.agg #[.int .i64 q5,.string q6]] w fun e w' => e = .returned (.string (numS q5 ++ putTextS q6)) /\ Below w.heap.size w w':=by
 obtain ⟨W,hW⟩ : ∃ W,W = w.alloc (.cells #[.int .i64 q5,.string q6] 97):=⟨_,rfl⟩
 have HA : Hid (BoxC W w.heap.size [.int .i64 q5,.string q6]):=qH (by rw [hW];exact BoxC.made _ _ _)
 have HW0 : Hid (Below w.heap.size w W):=qH (by rw [hW];exact (Below.refl _ _).alloc (Nat.le_refl _) _)
 have HC : Hid (∀ u : World,Below W.heap.size W u -> u.cell? ⟨w.heap.size,0,none⟩ = some (.int .i64 q5) /\ u.cell? ⟨w.heap.size,1,none⟩ = some (.string q6)):=qH (fun u hu => ⟨(HA.out.below hu).cell 0 _ rfl,(HA.out.below hu).cell 1 _ rfl⟩)
 have P0 : Hid (∀ u,Calls Tryz.prog 31 #[.int .i64 q5] u fun e w' => e = .returned (.string (numS q5)) /\ Below u.heap.size u w'):=qH (fun u => implPutNum_any q5 u (i64_in (by omega) (by omega)))
 have z0:=(numS_size q5).2
 have P1 : Hid (∀ u,Calls Tryz.prog 33 #[.string q6] u fun e w' => e = .returned (.string (putTextS q6)) /\ Below u.heap.size u w'):=qH (fun u => implPutText_any q6 u (by unfold maxLen;omega))
 have z1:=putT_size (t:=q6) (by omega)
 generalize numS q5 = p0 at *
 generalize putTextS q6 = p1 at *
 have HJ : Hid (∀ (u : World),Calls Tryz.prog 35 #[.slice (some ⟨u.heap.size,0,none⟩) 2 2] (u.alloc (.cells #[.string p0,.string p1] 9)) fun r w' => r = .returned (.string (p0 ++ p1)) /\ Below u.heap.size u w'):=qH (fun u => joined_two p0 p1 _ u (by omega) (by omega))
 clear HA z0 z1
 have hFn : Below W.heap.size W W.drew:=(Below.refl _ _).drew
 go_enter Tryz.func162,Tryz.ntmps162
 go_wp2_with fail
 rw [<- hW]
 clear hW
 go_region_held3 (fun u => u.cell? ⟨w.heap.size,0,none⟩ = some (.int .i64 q5) /\ u.cell? ⟨w.heap.size,1,none⟩ = some (.string q6)) (first | (exact HC.out _ hFn) | (exact HC.out _ (hFn.alloc hFn.size _)))
  (first | (go_at_call 31;(with_reducible refine Calls.mono (P0.out _) ?_);rintro e w1 ⟨rfl,hb⟩;have hFn:=hFn.trans (hb.mono hFn.size);clear hb) | (go_at_call 33;(with_reducible refine Calls.mono (P1.out _) ?_);rintro e w1 ⟨rfl,hb⟩;have hFn:=hFn.trans (hb.mono hFn.size);clear hb) | (go_at_call 35;refine Calls.mono (HJ.out _) ?_;rintro e w1 ⟨rfl,hb⟩;have hFn:=hFn.trans (hb.mono hFn.size);clear hb))
 all_goals
  go_wp2_with fail
  go_ret
  exact ⟨rfl,HW0.out.trans (hFn.mono HW0.out.size)⟩
theorem bytes3_any (q7 : ByteArray) (q8 : Int) (q9 : ByteArray) (w : World) (h7 : q7.size <= 8) (h8 : 1 <= q8 /\ q8 <= 5) (h9 : q9.size <= 20) :
 Calls Tryz.prog 166 #[.agg #[.string q7,.int .i64 q8,.string q9]] w fun e w' => e = .returned (.string (putTextS q7 ++ numS q8 ++ putTextS q9)) /\ Below w.heap.size w w':=by
 obtain ⟨W,hW⟩ : ∃ W,W = w.alloc (.cells #[.string q7,.int .i64 q8,.string q9] 98):=⟨_,rfl⟩
 have HA : Hid (BoxC W w.heap.size [.string q7,.int .i64 q8,.string q9]):=qH (by rw [hW];exact BoxC.made _ _ _)
 have HW0 : Hid (Below w.heap.size w W):=qH (by rw [hW];exact (Below.refl _ _).alloc (Nat.le_refl _) _)
 have HC : Hid (∀ u : World,Below W.heap.size W u -> u.cell? ⟨w.heap.size,0,none⟩ = some (.string q7) /\ u.cell? ⟨w.heap.size,1,none⟩ = some (.int .i64 q8) /\ u.cell? ⟨w.heap.size,2,none⟩ = some (.string q9)):=qH (fun u hu => ⟨(HA.out.below hu).cell 0 _ rfl,(HA.out.below hu).cell 1 _ rfl,(HA.out.below hu).cell 2 _ rfl⟩)
 have P0 : Hid (∀ u,Calls Tryz.prog 33 #[.string q7] u fun e w' => e = .returned (.string (putTextS q7)) /\ Below u.heap.size u w'):=qH (fun u => implPutText_any q7 u (by unfold maxLen;omega))
 have z0:=putT_size (t:=q7) (by omega)
 have P1 : Hid (∀ u,Calls Tryz.prog 31 #[.int .i64 q8] u fun e w' => e = .returned (.string (numS q8)) /\ Below u.heap.size u w'):=qH (fun u => implPutNum_any q8 u (i64_in (by omega) (by omega)))
 have z1:=(numS_size q8).2
 have P2 : Hid (∀ u,Calls Tryz.prog 33 #[.string q9] u fun e w' => e = .returned (.string (putTextS q9)) /\ Below u.heap.size u w'):=qH (fun u => implPutText_any q9 u (by unfold maxLen;omega))
 have z2:=putT_size (t:=q9) (by omega)
 generalize putTextS q7 = p0 at *
 generalize numS q8 = p1 at *
 generalize putTextS q9 = p2 at *
 have HJ : Hid (∀ (u : World),Calls Tryz.prog 35 #[.slice (some ⟨u.heap.size,0,none⟩) 3 3] (u.alloc (.cells #[.string p0,.string p1,.string p2] 9)) fun r w' => r = .returned (.string (p0 ++ p1 ++ p2)) /\ Below u.heap.size u w'):=qH (fun u => joined_three p0 p1 p2 _ u (by omega) (by omega) (by omega))
 clear HA z0 z1 z2
 have hFn : Below W.heap.size W W.drew:=(Below.refl _ _).drew
 go_enter Tryz.func166,Tryz.ntmps166
 go_wp2_with fail
 rw [<- hW]
 clear hW
 go_region_held3 (fun u => u.cell? ⟨w.heap.size,0,none⟩ = some (.string q7) /\ u.cell? ⟨w.heap.size,1,none⟩ = some (.int .i64 q8) /\ u.cell? ⟨w.heap.size,2,none⟩ = some (.string q9)) (first | (exact HC.out _ hFn) | (exact HC.out _ (hFn.alloc hFn.size _)))
  (first | (go_at_call 33;(with_reducible refine Calls.mono (P0.out _) ?_);rintro e w1 ⟨rfl,hb⟩;have hFn:=hFn.trans (hb.mono hFn.size);clear hb) | (go_at_call 31;(with_reducible refine Calls.mono (P1.out _) ?_);rintro e w1 ⟨rfl,hb⟩;have hFn:=hFn.trans (hb.mono hFn.size);clear hb) | (go_at_call 33;(with_reducible refine Calls.mono (P2.out _) ?_);rintro e w1 ⟨rfl,hb⟩;have hFn:=hFn.trans (hb.mono hFn.size);clear hb) | (go_at_call 35;refine Calls.mono (HJ.out _) ?_;rintro e w1 ⟨rfl,hb⟩;have hFn:=hFn.trans (hb.mono hFn.size);clear hb))
 all_goals
  go_wp2_with fail
  go_ret
  exact ⟨rfl,HW0.out.trans (hFn.mono HW0.out.size)⟩
theorem bytes4_any (q7 : ByteArray) (w : World) (h7 : q7.size <= 8) :
 Calls Tryz.prog 170 #[.string q7] w fun e w' => e = .returned (.string (putTextS q7)) /\ Below w.heap.size w w':=by
 go_enter Tryz.func170,Tryz.ntmps170
 go_wp2_with fail
 refine (implPutText_any q7 _ (by unfold maxLen;omega)).mono ?_
 rintro e w1 ⟨rfl,hb⟩
 have HB1:=qH hb
 clear hb
 go_wp2_with fail
 go_ret
 exact ⟨rfl,HB1.out⟩
theorem catS_size (ps : List ByteArray) : (catS ps).size = sumL ps:=by rw [<- catL_len];simp [catS,ByteArray.size]
theorem catS_more (ps : List ByteArray) (a b : ByteArray) : catS (ps ++ [a,b]) = catS ps ++ (a ++ b):=by
 apply ByteArray.ext
 apply Array.toList_inj.1
 simp [catS,catL]
theorem sumL_more (ps : List ByteArray) (a b : ByteArray) : sumL (ps ++ [a,b]) = sumL ps + (a.size + b.size):=by simp [sumL]
theorem deed_bytes {q0 q1 q2 q3 q4 q5 : Int} {q6 q7 : ByteArray} {q8 : Int} {q9 : ByteArray} (hB : deedB q0 q1 q2 q3 q4 q5 q6 q7 q8 q9 = true) :
 ∃ (T : TypeId) (v : Value) (F : FuncId) (rest : ByteArray),(∀ u,Calls Tryz.prog 32 #[.agg #[.int .i64 q0,.int .i64 q1,.int .i64 q2,.int .i64 q3,.int .i64 q4,.int .i64 q5,.string q6,.string q7,.int .i64 q8,.string q9]] u fun e w' => e = .returned (.iface T v) /\ Below u.heap.size u w') ∧
  (∀ u, (nilAhead 328 T v "loop.example/g00839/impl.bytes").run Tryz.prog u = .ok (some false) u) /\ (∀ u, (method 328 T v "loop.example/g00839/impl.bytes").run Tryz.prog u = .ok (F, v) u) /\ (∀ u, (callFunc F #[v]).run Tryz.prog u = .ok (.enter F #[v]) u) ∧
  (∀ u,Calls Tryz.prog F #[v] u fun e w' => e = .returned (.string rest) /\ Below u.heap.size u w') /\ numS q0 ++ rest = deedT q0 q1 q2 q3 q4 q5 q6 q7 q8 q9:=by
 rcases deedB_bounds hB with ⟨rfl,h1,h2,h3,h4⟩ | ⟨rfl,h5,h6⟩ | ⟨rfl,h7,h8,h9⟩ | ⟨rfl,h7⟩
 · exact ⟨_,_,_,_,fun u => deedOf1_any 1 q1 q2 q3 q4 q5 q6 q7 q8 q9 rfl u,fun u => nil_bytes1 q1 q2 q3 q4 u,fun u => met_bytes1 q1 q2 q3 q4 u,fun u => by kernel_rfl,fun u => bytes1_any q1 q2 q3 q4 u h1 h2 h3 h4,by unfold deedT;rw [if_pos rfl];simp only [ByteArray.append_assoc]⟩
 · exact ⟨_,_,_,_,fun u => deedOf2_any 2 q1 q2 q3 q4 q5 q6 q7 q8 q9 rfl u,fun u => nil_bytes2 q5 q6 u,fun u => met_bytes2 q5 q6 u,fun u => by kernel_rfl,fun u => bytes2_any q5 q6 u h5 h6.2,by unfold deedT;rw [if_neg (by decide),if_pos rfl];simp only [ByteArray.append_assoc]⟩
 · exact ⟨_,_,_,_,fun u => deedOf3_any 3 q1 q2 q3 q4 q5 q6 q7 q8 q9 rfl u,fun u => nil_bytes3 q7 q8 q9 u,fun u => met_bytes3 q7 q8 q9 u,fun u => by kernel_rfl,fun u => bytes3_any q7 q8 q9 u h7.2 h8 h9.2,by unfold deedT;rw [if_neg (by decide),if_neg (by decide),if_pos rfl];simp only [ByteArray.append_assoc]⟩
 · exact ⟨_,_,_,_,fun u => deedOf4_any 4 q1 q2 q3 q4 q5 q6 q7 q8 q9 rfl u,fun u => nil_bytes4 q7 u,fun u => met_bytes4 q7 u,fun u => by kernel_rfl,fun u => bytes4_any q7 u h7.2,by unfold deedT;rw [if_neg (by decide),if_neg (by decide),if_neg (by decide)]⟩
theorem implTxBytes_any (a : Option Addr) (n cap : Nat) (ds : List Dd) (w : World) (h : DdR w a n cap ds) (hn : n <= 1048576) (hs : ∀ t,t < n -> (ds.getD t ddD).lk.size <= maxLen /\ (ds.getD t ddD).nm.size <= maxLen /\ (ds.getD t ddD).bd.size <= maxLen) :
 Calls Tryz.prog 6 #[.slice a n cap] w fun e w' => e = .returned (.string (txS ds)) /\ Below w.heap.size w w':=by
 have hl : ds.length = n:=h.len
 have HS:=qH hs
 clear hs
 by_cases h1 : 1 <= n
 · by_cases h2 : n <= 10
   · have hz:=(numS_size (n : Int)).2
     go_enter Tryz.func6,Tryz.ntmps6
     go_wp2_with fail
     refine (implPutNum_any (n : Int) _ (i64_in (by omega) (by omega))).mono ?_
     rintro e w1 ⟨rfl,hb⟩
     have HB1:=qH (hb.alloc hb.size (.cells #[.string (numS (n : Int))] 9))
     have HO1 : Hid ((w1.alloc (.cells #[.string (numS (n : Int))] 9)).ownsRow w.heap.size 9 stE.k (.slice (some ⟨w1.heap.size,0,none⟩) 1 1) 1 (stE.flat [numS (n : Int)])):=qH (World.ownsRow_lit w1 #[.string (numS (n : Int))] 1 hb.size (by decide) rfl)
     clear hb
     go_wp2_with fail
     go_loopw [3,20] (fun p i wr => ∃ (k : Nat) (ps : List ByteArray) (pv : Value),k <= n /\ p = pv /\ i = .int .i64 k /\ wr.ownsRow w.heap.size 9 stE.k pv (1 + 2 * k) (stE.flat ps) /\ ps.length = 1 + 2 * k /\ Hid (catS ps = txTo ds k) /\ Hid (sumL ps <= 10 + 300 * k) /\ Hid (allTo' (fun i => deedOf (ds.getD i ddD)) k = true) /\ Hid (Below w.heap.size w wr)) (fun _ i _ => n - (intOf i).toNat)
     case atStart => exact ⟨0,[numS (n : Int)],_,Nat.zero_le _,rfl,rfl,HO1.out,rfl,qH (by rw [txTo_zero,hl,catS_one]),qH (by simp [sumL];omega),qH rfl,HB1⟩
     case round =>
      obtain ⟨k,ps,p,hk,hp,rfl,hO,hpl,HC,HSM,HA,HB⟩:=hrel
      have hp2:=hp.symm
      clear hp
      subst hp2
      clear HB1 HO1
      by_cases hlt : k < n
      · obtain ⟨g,o,rfl,hg,t0,t1,t2,t3,t4,t5,t6,t7,t8,t9⟩:=DdR.at (SR.below h HB.out) hlt
        have hin : 0 <= (k : Int) /\ (k : Int) < (n : Int):=by omega
        have hsj:=HS.out k hlt
        have HST:=qH (txTo_succ (ds:=ds) (k:=k) (by omega))
        have HD : Hid (deedOf (ds.getD k ddD) = deedB (ds.getD k ddD).kd (ds.getD k ddD).gn (ds.getD k ddD).nd (ds.getD k ddD).mn (ds.getD k ddD).ck (ds.getD k ddD).no (ds.getD k ddD).lk (ds.getD k ddD).nm (ds.getD k ddD).tm (ds.getD k ddD).bd):=qH rfl
        have HTX : Hid (deedTx (ds.getD k ddD) = deedT (ds.getD k ddD).kd (ds.getD k ddD).gn (ds.getD k ddD).nd (ds.getD k ddD).mn (ds.getD k ddD).ck (ds.getD k ddD).no (ds.getD k ddD).lk (ds.getD k ddD).nm (ds.getD k ddD).tm (ds.getD k ddD).bd):=qH rfl
        generalize (ds.getD k ddD).kd = q0 at *
        generalize (ds.getD k ddD).gn = q1 at *
        generalize (ds.getD k ddD).nd = q2 at *
        generalize (ds.getD k ddD).mn = q3 at *
        generalize (ds.getD k ddD).ck = q4 at *
        generalize (ds.getD k ddD).no = q5 at *
        generalize (ds.getD k ddD).lk = q6 at *
        generalize (ds.getD k ddD).nm = q7 at *
        generalize (ds.getD k ddD).tm = q8 at *
        generalize (ds.getD k ddD).bd = q9 at *
        obtain ⟨V,hV⟩ : ∃ V,V = wr.alloc (.cells #[.int .i64 q0,.int .i64 q1,.int .i64 q2,.int .i64 q3,.int .i64 q4,.int .i64 q5,.string q6,.string q7,.int .i64 q8,.string q9] 34):=⟨_,rfl⟩
        have hbv : Below w.heap.size w V:=by rw [hV];exact HB.out.alloc HB.out.size _
        have HX : Hid (BoxC V wr.heap.size [.int .i64 q0,.int .i64 q1,.int .i64 q2,.int .i64 q3,.int .i64 q4,.int .i64 q5,.string q6,.string q7,.int .i64 q8,.string q9]):=qH (by rw [hV];exact BoxC.made _ _ _)
        have hOV:=World.ownsRow.alloc hO (.cells #[.int .i64 q0,.int .i64 q1,.int .i64 q2,.int .i64 q3,.int .i64 q4,.int .i64 q5,.string q6,.string q7,.int .i64 q8,.string q9] 34)
        rw [<- hV] at hOV
        go_wp2_with fail
        rw [<- hV]
        clear hV
        refine (implDeedRight_any q0 q1 q2 q3 q4 q5 q6 q7 q8 q9 _ hsj.1 hsj.2.1 hsj.2.2).mono ?_
        rintro e w5 ⟨rfl,hb⟩
        have HB5:=qH (hbv.trans (hb.mono hbv.size))
        have HX5:=qH (HX.out.below hb)
        have hOLD : Hid (∀ q,p.ownBlock = some q -> q < wr.heap.size):=qH (fun q hq => (hO.lt q hq).2)
        have HO5:=qH (own_below hOV hb)
        clear hb hbv hOV hO HX t0 t1 t2 t3 t4 t5 t6 t7 t8 t9 HB
        cases hv : deedB q0 q1 q2 q3 q4 q5 q6 q7 q8 q9
        · have HF:=qH (txS_no (ds:=ds) (by unfold txOk;rw [hl,allTo'_no hlt (by rw [HD.out];exact hv),Bool.and_false])).symm
          go_wp2_with fail
          go_ret
          exact ⟨ret_string HF.out,HB5.out⟩
        · have hz5:=deedT_size hv
          have HA2:=qH (allTo'_succ HA.out (by rw [HD.out];exact hv))
          have hbd:=deedB_bounds hv
          go_wp2_with fail
          have hmx : Tryz.prog.follows .mixedOrders = true:=by kernel_rfl
          obtain ⟨T,v,F,rest,hdo,hnl,hme,hcf,hby,hrt⟩:=deed_bytes hv
          have hzk:=(numS_size q0).2
          have HPN : Hid (∀ u,Calls Tryz.prog 31 #[.int .i64 q0] u fun e w' => e = .returned (.string (numS q0)) /\ Below u.heap.size u w'):=qH (fun u => implPutNum_any q0 u (i64_in (by omega) (by omega)))
          have HNEW : Hid (txTo ds (k + 1) = catS ps ++ (numS q0 ++ rest)):=qH (by rw [HST.out,HTX.out,<- hrt,HC.out])
          have HNS : Hid (sumL (ps ++ [numS q0,rest]) <= 10 + 300 * (k + 1)):=qH (by
           have e1 : (numS q0 ++ rest).size <= 200:=by rw [hrt];exact hz5
           rw [ByteArray.size_append] at e1
           have:=HSM.out
           rw [sumL_more]
           omega)
          generalize numS q0 = nk at *
          have HDO:=qH hdo
          have HBY:=qH hby
          clear hrt hdo hby hbd hz5 HST HTX HD hsj hv HC HSM
          obtain ⟨i0,hi0,hz0,hs0,hy0⟩:=info_parts infoStr
          refine TillZ.region (t:=9) hmx (fun u => BoxC u wr.heap.size [.int .i64 q0,.int .i64 q1,.int .i64 q2,.int .i64 q3,.int .i64 q4,.int .i64 q5,.string q6,.string q7,.int .i64 q8,.string q9]) ?_
          have hS0:=HX5.out.drew
          refine TillZ.take4 (i:=0) (v:=p) rfl rfl rfl (by kernel_rfl) hS0 (fun u hu => by go_simp) ?_
          simp only [pS,List.set,zT,zZ]
          refine TillZ.take4 (i:=1) (v:=.pointer (some ⟨wr.heap.size,0,none⟩)) rfl rfl rfl (by kernel_rfl) hS0 (fun u hu => by go_simp) ?_
          simp only [pS,List.set,zT,zZ,zU]
          refine TillZ.take4 (i:=2) (v:=.int .i64 q0) rfl rfl rfl (by kernel_rfl) hS0 (fun u hu => by have x0:=hu.cell 0 _ rfl;go_simp) ?_
          simp only [pS,List.set,zT,zZ,zU]
          refine TillZ.take4 (i:=4) (v:=.agg #[.int .i64 q0,.int .i64 q1,.int .i64 q2,.int .i64 q3,.int .i64 q4,.int .i64 q5,.string q6,.string q7,.int .i64 q8,.string q9]) rfl rfl rfl (by kernel_rfl) hS0 (fun u hu => by have x0:=hu.cell 0 _ rfl;have x1:=hu.cell 1 _ rfl;have x2:=hu.cell 2 _ rfl;have x3:=hu.cell 3 _ rfl;have x4:=hu.cell 4 _ rfl;have x5:=hu.cell 5 _ rfl;have x6:=hu.cell 6 _ rfl;have x7:=hu.cell 7 _ rfl;have x8:=hu.cell 8 _ rfl;have x9:=hu.cell 9 _ rfl;go_simp) ?_
          simp only [pS,List.set,zT,zZ,zU]
          refine TillZ.call (i:=3) (f:=31) (args:=#[.int .i64 q0]) (by kernel_rfl) rfl rfl rfl (by go_simp) ?_
          refine Calls.mono (HPN.out _) ?_
          rintro e w6 ⟨rfl,hb⟩
          have hS1:=hS0.below hb
          have HB6:=qH (HB5.out.drew.trans (hb.mono HB5.out.size))
          have HO6:=qH (own_below (World.ownsRow.drew HO5.out) hb)
          refine ⟨_,rfl,hS1,?_⟩
          clear hb hS0
          simp only [pS,List.set,zT,zZ,zU]
          refine TillZ.call (i:=5) (f:=32) (args:=#[.agg #[.int .i64 q0,.int .i64 q1,.int .i64 q2,.int .i64 q3,.int .i64 q4,.int .i64 q5,.string q6,.string q7,.int .i64 q8,.string q9]]) (by kernel_rfl) rfl rfl rfl (by go_simp) ?_
          refine Calls.mono (HDO.out _) ?_
          rintro e w7 ⟨rfl,hb⟩
          have hS2:=hS1.below hb
          have HB7:=qH (HB6.out.trans (hb.mono HB6.out.size))
          have HO7:=qH (own_below HO6.out hb)
          refine ⟨_,rfl,hS2,?_⟩
          clear hb hS1
          simp only [pS,List.set,zT,zZ,zU]
          refine TillZ.call (i:=6) (f:=F) (args:=#[v]) (by kernel_rfl) rfl rfl rfl (by first | (go_simp;done) | (go_simp;rw [hme];go_simp;done) | (go_simp;rw [hme];go_simp;rw [hcf])) ?_
          refine Calls.mono (HBY.out _) ?_
          rintro e w8 ⟨rfl,hb⟩
          have hS3:=hS2.below hb
          have HB8:=qH (HB7.out.trans (hb.mono HB7.out.size))
          have HO8:=qH (own_below HO7.out hb)
          refine ⟨_,rfl,hS3,?_⟩
          clear hb hS2
          simp only [pS,List.set,zT,zZ,zU]
          refine TillZ.one (i:=7) (by kernel_rfl) ?_
          refine TillZ.opz (i:=7) (v:=.slice (some ⟨w8.heap.size,0,none⟩) 2 2) (w':=w8.alloc (.cells #[.string nk,.string rest] 9)) rfl rfl rfl (by go_simp) (hS3.alloc _) ?_
          simp only [pS,List.set,zT,zZ,zU]
          have hS4:=hS3.alloc (.cells #[.string nk,.string rest] 9)
          have HB9:=qH (HB8.out.alloc HB8.out.size (.cells #[.string nk,.string rest] 9))
          have hO9:=World.ownsRow.alloc HO8.out (.cells #[.string nk,.string rest] 9)
          have hL : SR stE ByteArray.empty (w8.alloc (.cells #[.string nk,.string rest] 9)) (some ⟨w8.heap.size,0,none⟩) 2 2 [nk,rest]:=SR.own (by decide) (World.ownsRow_lit w8 #[.string nk,.string rest] 2 (Nat.le_refl _) (by decide) rfl)
          refine TillZ.one (i:=8) (by kernel_rfl) ?_
          refine append_opz stE ByteArray.empty (i:=8) (.tmp 27) (.tmp 34) 61 rfl rfl rfl rfl 9 i0 _ 16 Tryz.underlying61 hi0 hz0 hs0 hy0 rfl (by decide) (by decide) w.heap.size p (1 + 2 * k) ps rfl hO9 _ 2 2 [nk,rest] rfl hL HB9.out.size (by omega) (by omega) (fun v2 u2 O2 G2 => ?_)
          simp only [pS,List.set,zT,zZ,zU]
          have HB10 : Hid (Below w.heap.size w u2):=qH (HB9.out.grown G2 HB9.out.size (fun q hq => (hO9.lt q hq).1))
          refine ⟨hS4.grown G2 (fun e => by have:=hOLD.out _ e.symm;omega),?_⟩
          refine TillZ.hand (v:=v2) (by kernel_rfl) rfl rfl (by go_simp) ?_
          simp only [pS,List.set,zT,zZ,zU]
          refine TillZ.any_done (by kernel_rfl) ?_ _
          go_wp2_with fail
          go_roundw
          case rel => exact ⟨k + 1,ps ++ [nk,rest],_,by omega,rfl,by go_num,by rwa [show 1 + 2 * k + 2 = 1 + 2 * (k + 1) by omega] at O2,by simp [hpl];omega,qH (by rw [catS_more,HNEW.out]),HNS,HA2,HB10⟩
          case measure => simp [intOf] <;> omega
      · obtain rfl : n = k:=by omega
        have HOK : Hid (txOk ds = true):=qH (by unfold txOk;rw [hl,decide_eq_true ⟨h1,h2⟩,HA.out];rfl)
        have HF:=qH (txS_yes HOK.out).symm
        rw [hl,<- HC.out] at HF
        have hsm:=HSM.out
        obtain ⟨ao,co,rfl⟩:=own_shape hO
        have hSR : SR stE ByteArray.empty wr ao (1 + 2 * n) co ps:=SR.own (by decide) hO
        obtain ⟨g,o,rfl,hg,hcs⟩:=hSR.cells (by omega)
        have HJ:=qH (joined_any g o co ps wr hg (fun j hj => by have:=hcs j (by omega) 0 _ rfl;simpa [stE] using this) (by omega) (by omega))
        rw [hpl] at HJ
        have hcz : (catS ps).size = sumL ps:=catS_size ps
        have HJS : Hid ((catS ps).size <= maxLen):=qH (by rw [hcz];unfold maxLen;omega)
        have hss : (sealS (catS ps)).size <= maxLen:=by rw [sealS_yes (by omega),ByteArray.size_append,crc4_size];unfold maxLen;omega
        have HSS:=qH hss
        clear hss hcz hsm hcs hSR hO hpl
        go_wp2_with fail
        refine Calls.mono HJ.out ?_
        rintro e w2 ⟨rfl,hb⟩
        have HB2:=qH (HB.out.trans (hb.mono HB.out.size))
        clear hb
        go_wp2_with fail
        refine Calls.mono (implSeal_any _ _ HJS.out) ?_
        rintro e w3 ⟨rfl,hb⟩
        have HB3:=qH (HB2.out.trans (hb.mono HB2.out.size))
        clear hb
        go_wp2_with fail
        refine Calls.mono (implPutText_any _ _ HSS.out) ?_
        rintro e w4 ⟨rfl,hb⟩
        have HB4:=qH (HB3.out.trans (hb.mono HB3.out.size))
        clear hb
        go_wp2_with fail
        go_ret
        exact ⟨ret_string HF.out,HB4.out⟩
   · have HF:=qH (txS_no (ds:=ds) (by unfold txOk;rw [hl,decide_eq_false (by omega),Bool.false_and])).symm
     go_enter Tryz.func6,Tryz.ntmps6
     go_wp2_with fail
     go_ret
     exact ⟨ret_string HF.out,Below.refl _ _⟩
 · have HF:=qH (txS_no (ds:=ds) (by unfold txOk;rw [hl,decide_eq_false (by omega),Bool.false_and])).symm
   go_enter Tryz.func6,Tryz.ntmps6
   go_wp2_with fail
   go_ret
   exact ⟨ret_string HF.out,Below.refl _ _⟩
end Go.Proofs.YtbgoldeopmlbnaaGreatDoor
namespace Go.Proofs.YtbgoldeopmlbnaaGreatDoor.FreeW
open Go
section
variable {P : Program} {ops : Array Oper} {md : Region.Mode} {S : World -> Prop} {Q : Exit -> Act -> World -> Prop}
def upS (P : Program) (S : World -> Prop) (o : Oper) (a : Act) (K : Act -> World -> Prop) : Result Next -> Prop
 | .ok (.value v) w' => S w' /\ K (a.put o.dst v) w'
 | .ok .skip w' => S w' /\ K (a.put o.dst undef) w'
 | .ok (.enter f args) w' => Calls P f args w' fun e w'' => ∃ v,e = .returned v /\ S w'' /\ K (a.put o.dst v) w''
 | _ => False
theorem upS_mono {o : Oper} {a : Act} {K K' : Act -> World -> Prop} (h : ∀ a w,S w -> K a w -> K' a w) {r : Result Next} (hr : upS P S o a K r) : upS P S o a K' r:=by
 cases r with
 | ok x w' =>
  cases x <;> first
   | exact ⟨hr.1,h _ _ hr.1 hr.2⟩
   | exact Calls.mono hr (fun e w'' he => by obtain ⟨v,rfl,hS,hK⟩:=he;exact ⟨v,rfl,hS,h _ _ hS hK⟩)
   | exact (hr : False).elim
 | halt x w' => exact (hr : False).elim
def opS (P : Program) (ops : Array Oper) (S : World -> Prop) (i : Nat) (K : Act -> World -> Prop) (a : Act) (w : World) : Prop :=
 ∃ o,ops[i]? = some o /\ ((Region.wanted o (yielded ops a.tmps) = true /\ upS P S o a K ((execOp a.eval o).run P w)) ∨ (Region.wanted o (yielded ops a.tmps) = false /\ K (a.put o.dst undef) w))
theorem opS_mono {i : Nat} {a : Act} {w : World} {K K' : Act -> World -> Prop} (hS : S w) (h : ∀ a w,S w -> K a w -> K' a w) (hh : opS P ops S i K a w) : opS P ops S i K' a w:=by
 obtain ⟨o,h1,h2⟩:=hh
 refine ⟨o,h1,?_⟩
 rcases h2 with ⟨hw,hu⟩ | ⟨hw,hk⟩
 · exact .inl ⟨hw,upS_mono h hu⟩
 · exact .inr ⟨hw,h _ _ hS hk⟩
def wpS (P : Program) (md : Region.Mode) (ops : Array Oper) (S : World -> Prop) (Q : Exit -> Act -> World -> Prop) : Nat -> Array Bool -> Act -> World -> Prop
 | 0,listed,a,w => Region.ready md ops listed = [] /\ Q .normal a w
 | k + 1,listed,a,w => (Region.ready md ops listed = [] -> Q .normal a w) /\ ∀ i ∈ Region.ready md ops listed,opS P ops S i (wpS P md ops S Q k (listed.setIfInBounds i true)) a w
theorem opS_wp {i : Nat} {a : Act} {w : World} {K K' : Act -> World -> Prop} (hK : ∀ a w,K a w -> K' a w) (h : opS P ops S i K a w) : wpOp P ops Q i K' a w:=by
 obtain ⟨o,ho,hd⟩:=h
 unfold wpOp
 rw [ho]
 dsimp only
 rcases hd with ⟨hw,hu⟩ | ⟨hw,hk⟩
 · rw [if_pos hw]
   refine .inl ?_
   unfold Oper.wp
   generalize (execOp a.eval o).run P w = r at *
   cases r with
   | ok x w' =>
    cases x <;> first
     | exact hK _ _ hu.2
     | exact Calls.mono hu (fun e w'' he2 => by obtain ⟨v,rfl,_,h3⟩:=he2;exact hK _ _ h3)
     | exact (hu : False).elim
   | halt x w' => exact (hu : False).elim
 · rw [if_neg (by rw [hw];decide)]
   exact hK _ _ hk
theorem any_wp : ∀ (f : Nat) (listed : Array Bool) (a : Act) (w : World),wpS P md ops S Q f listed a w -> wpAny P md ops Q f listed a w
 | 0,_,_,_,h => ⟨h.1,h.2⟩
 | f + 1,_,_,_,h => ⟨h.1,fun i hi => opS_wp (fun a' w' hk => any_wp f _ a' w' hk) (h.2 i hi)⟩
def GS (P : Program) (ops : Array Oper) (S : World -> Prop) (o : Oper) (v : Value) (a : Act) : Prop :=
 (Region.wanted o (yielded ops a.tmps) = true /\ ∀ w,S w -> (execOp a.eval o).run P w = .ok (.value v) w) ∨ (Region.wanted o (yielded ops a.tmps) = false /\ v = undef)
theorem GS.same {o : Oper} {v : Value} {a a' : Act} (hy : GS P ops S o v a) (he : execOp a'.eval o = execOp a.eval o)
 (hw : Region.wanted o (yielded ops a'.tmps) = Region.wanted o (yielded ops a.tmps)) : GS P ops S o v a':=by
 unfold GS at *
 rw [he,hw]
 exact hy
theorem opS_put {j : Nat} {oi oj : Oper} {v : Value} (hj : ops[j]? = some oj) (hap : oi.apart ops oj = true) (hsi : ∀ cs b,oi.op ≠ .select cs b) (hsj : ∀ cs b,oj.op ≠ .select cs b) {K : Act -> World -> Prop} {a : Act} {w : World}
 (hy : GS P ops S oi v a) (h : opS P ops S j K (a.put oi.dst v) w) : opS P ops S j (fun a' w' => GS P ops S oi v a' /\ K (a'.put oi.dst v) w') a w:=by
 obtain ⟨h1,h2,h3⟩:=Oper.apart_spec hap
 have keep : ∀ u,GS P ops S oi v (a.put oj.dst u):=fun u => hy.same (execOp_put oi hsi a oj.dst u h3) (wanted_put oi a oj.dst u h3)
 obtain ⟨o,ho,hd⟩:=h
 obtain rfl : o = oj:=Option.some.inj (ho.symm.trans hj)
 refine ⟨o,hj,?_⟩
 rw [wanted_put o a oi.dst v h1,execOp_put (ops:=ops) o hsj a oi.dst v h1] at hd
 rcases hd with ⟨hw,hu⟩ | ⟨hw,hk⟩
 · refine .inl ⟨hw,?_⟩
   generalize (execOp a.eval o).run P w = r at *
   cases r with
   | ok x w' =>
    cases x <;> first
     | exact ⟨hu.1,keep _,by rw [<- Act.put_comm a v _ h2];exact hu.2⟩
     | exact Calls.mono hu (fun e w'' he => by obtain ⟨u,rfl,hS,hK⟩:=he;exact ⟨u,rfl,hS,keep _,by rw [<- Act.put_comm a v _ h2];exact hK⟩)
     | exact (hu : False).elim
   | halt x w' => exact (hu : False).elim
 · exact .inr ⟨hw,keep _,by rw [<- Act.put_comm a v _ h2];exact hk⟩
theorem first {i : Nat} {oi : Oper} {v : Value} (hi : ops[i]? = some oi) (hsel : ∀ (j : Nat) (o : Oper) cs b,ops[j]? = some o -> o.op ≠ .select cs b) :
 ∀ (f : Nat) (listed : Array Bool) (a : Act) (w : World),
  (∀ j oj,ops[j]? = some oj -> j ≠ i -> listed.getD j true = false -> (∀ e ∈ oj.after,Region.binds md e = true -> e.on ≠ i) -> oi.apart ops oj = true) →
  i ∈ Region.ready md ops listed -> GS P ops S oi v a -> S w →
  wpS P md ops S Q f (listed.setIfInBounds i true) (a.put oi.dst v) w -> wpS P md ops S Q (f + 1) listed a w:=by
 have own : ∀ {K : Act -> World -> Prop} {a : Act} {w : World},GS P ops S oi v a -> S w -> K (a.put oi.dst v) w -> opS P ops S i K a w:=fun hy hS H => by
  refine ⟨oi,hi,?_⟩
  rcases hy with ⟨hw,he⟩ | ⟨hw,rfl⟩
  · exact .inl ⟨hw,by rw [he _ hS];exact ⟨hS,H⟩⟩
  · exact .inr ⟨hw,H⟩
 intro f
 induction f with
 | zero =>
  intro listed a w _ hr hy hS H
  refine ⟨fun h => (by rw [h] at hr;cases hr),fun j hj => ?_⟩
  by_cases hji : j = i
  · subst hji;exact own hy hS H
  · have:=ready_mono hj hji
    rw [H.1] at this
    cases this
 | succ f ih =>
  intro listed a w hfree hr hy hS H
  refine ⟨fun h => (by rw [h] at hr;cases hr),fun j hj => ?_⟩
  by_cases hji : j = i
  · subst hji;exact own hy hS H
  · have h1:=H.2 j (ready_mono hj hji)
    obtain ⟨hjun,oj,hoj,hall⟩:=mem_ready.1 hj
    have hnot : ∀ e ∈ oj.after,Region.binds md e = true -> e.on ≠ i:=fun e he hb heq => by
     have ha:=hall e he hb
     have hb0:=(mem_ready.1 hr).1
     rw [heq] at ha
     rcases Nat.lt_or_ge i listed.size with hl | hl
     · simp [hl] at hb0 ha;rw [hb0] at ha;cases ha
     · simp [Array.getElem?_eq_none hl] at ha
    have h2:=opS_put hoj (hfree j oj hoj hji hjun hnot) (fun cs b => hsel i oi cs b hi) (fun cs b => hsel j oj cs b hoj) hy h1
    refine opS_mono hS (fun a' w' hS' h3 => ?_) h2
    refine ih (listed.setIfInBounds j true) a' w' (fun m om hm hmi hmun hno => hfree m om hm hmi (by
     by_cases hjm : j = m
     · rw [<- hjm];exact hjun
     · rw [getD_set_ne true hjm] at hmun;exact hmun) hno) (ready_mono hr (Ne.symm hji)) h3.1 hS' ?_
    rw [Array.setIfInBounds_comm _ _ hji]
    exact h3.2
theorem take {i : Nat} {oi : Oper} {v : Value} {k : Nat} {listed : Array Bool} {a : Act} {w : World} (hi : ops[i]? = some oi)
 (hs : Region.noSelect ops = true) (hf : Region.free md ops listed i = true) (hr : (Region.ready md ops listed).contains i = true) (hS : S w) (hw : Region.wanted oi (yielded ops a.tmps) = true) (hy : ∀ u,S u -> (execOp a.eval oi).run P u = .ok (.value v) u)
 (h : wpS P md ops S Q k (listed.setIfInBounds i true) (a.put oi.dst v) w) : wpS P md ops S Q (k + 1) listed a w :=
 first hi (Region.noSelect_spec hs) k listed a w (Region.free_spec hi hf) (by simpa using hr) (.inl ⟨hw,hy⟩) hS h
theorem call {i : Nat} {o : Oper} {k : Nat} {listed : Array Bool} {a : Act} {w : World} {f : FuncId} {args : Array Value} (hr : Region.ready md ops listed = [i]) (ho : ops[i]? = some o) (hw : Region.wanted o (yielded ops a.tmps) = true) (he : (execOp a.eval o).run P w = .ok (.enter f args) w)
 (h : Calls P f args w fun e w'' => ∃ v,e = .returned v /\ S w'' /\ wpS P md ops S Q k (listed.setIfInBounds i true) (a.put o.dst v) w'') : wpS P md ops S Q (k + 1) listed a w:=by
 refine ⟨fun h0 => (by rw [hr] at h0;cases h0),fun j hj => ?_⟩
 rw [hr] at hj
 obtain rfl : j = i:=by simpa using hj
 exact ⟨o,ho,.inl ⟨hw,by rw [he];exact h⟩⟩
theorem done {listed : Array Bool} {a : Act} {w : World} (hr : Region.ready md ops listed = []) (h : Q .normal a w) : ∀ k,wpS P md ops S Q k listed a w
 | 0 => ⟨hr,h⟩
 | _ + 1 => ⟨fun _ => h,by rw [hr];simp⟩
theorem region {id : Nat} {a : Act} {w : World} {l : List Oper} (hm : P.follows .mixedOrders = true) (S : World -> Prop)
 (h : wpS P .any l.toArray S Q l.length (Array.replicate l.length false) a w.drew) : (Code.region id l.toArray true).wp P Q a w:=by
 refine wp_region_any hm ?_
 have:=any_wp _ _ _ _ h
 simpa using this
end
end Go.Proofs.YtbgoldeopmlbnaaGreatDoor.FreeW
namespace Go.Proofs.YtbgoldeopmlbnaaGreatDoor
open Go.RowKit Go.PlainAid G MGet MGF IRow MNum MJoin
set_option linter.unusedVariables false
def sN (u : ByteArray) (q : Nat × Bool) : Int × (Nat × Bool):=if (rdS u q.1 10 0 0).2.2 = 0 then ((rdS u q.1 10 0 0).1,((rdS u q.1 10 0 0).2.1.toNat,q.2)) else (0,(q.1,true))
def sT (u : ByteArray) (q : Nat × Bool) : ByteArray × (Nat × Bool):=if (txtS u q.1).2.2 = 0 then ((txtS u q.1).1,((txtS u q.1).2.1.toNat,q.2)) else (⟨#[]⟩,(q.1,true))
theorem sN_bad {u : ByteArray} {q : Nat × Bool} (h : q.2 = true) : (sN u q).2.2 = true:=by unfold sN;split <;> simp [h]
theorem sT_bad {u : ByteArray} {q : Nat × Bool} (h : q.2 = true) : (sT u q).2.2 = true:=by unfold sT;split <;> simp [h]
theorem sN_no {u : ByteArray} {q : Nat × Bool} (h : (rdS u q.1 10 0 0).2.2 ≠ 0) : sN u q = (0,(q.1,true)):=by unfold sN;rw [if_neg h]
theorem sT_no {u : ByteArray} {q : Nat × Bool} (h : (txtS u q.1).2.2 ≠ 0) : sT u q = (⟨#[]⟩,(q.1,true)):=by unfold sT;rw [if_neg h]
theorem sN_yes {u : ByteArray} {q : Nat × Bool} (h : (rdS u q.1 10 0 0).2.2 = 0) : rdS u q.1 10 0 0 = ((sN u q).1,(((sN u q).2.1 : Nat) : Int),0) /\ (sN u q).2.2 = q.2 /\ (sN u q).2.1 <= u.size:=by
 have hp:=rd_place u q.1 10 0 0 h
 unfold sN
 rw [if_pos h]
 dsimp only
 refine ⟨?_,rfl,by omega⟩
 rw [Int.toNat_of_nonneg (by omega)]
 exact Prod.ext rfl (Prod.ext rfl h)
theorem txt_place {u : ByteArray} {a : Nat} (h : (txtS u a).2.2 = 0) : 0 <= (txtS u a).2.1 /\ (txtS u a).2.1 <= (u.size : Int):=by
 unfold txtS at h ⊢
 split at h
 · rename_i h1;exact absurd h h1
 · rename_i h1
   rw [if_neg h1]
   split at h
   · exact absurd h (by decide)
   · rename_i h2
     rw [if_neg h2]
     split at h
     · exact absurd h (by decide)
     · rename_i h3
       rw [if_neg h3]
       have hp:=rd_place u a 10 0 0 (by simpa using h1)
       dsimp only
       omega
theorem sT_yes {u : ByteArray} {q : Nat × Bool} (h : (txtS u q.1).2.2 = 0) : txtS u q.1 = ((sT u q).1,(((sT u q).2.1 : Nat) : Int),0) /\ (sT u q).2.2 = q.2 /\ (sT u q).2.1 <= u.size:=by
 have hp:=txt_place h
 unfold sT
 rw [if_pos h]
 dsimp only
 refine ⟨?_,rfl,by omega⟩
 rw [Int.toNat_of_nonneg (by omega)]
 exact Prod.ext rfl (Prod.ext rfl h)
structure RB (w : World) (b : Nat) (u : ByteArray) (p : Int) : Prop where
 lt : b < w.heap.size
 c0 : w.cell? ⟨b,0,none⟩ = some (.string u)
 c1 : w.cell? ⟨b,1,none⟩ = some (.int .i64 p)
 free : w.frozen? ⟨b,1,none⟩ = false
theorem RB.below {w w' : World} {b : Nat} {u : ByteArray} {p : Int} (k : RB w b u p) (hb : Below w.heap.size w w') : RB w' b u p :=
 ⟨Nat.lt_of_lt_of_le k.lt hb.size,(hb.cell (p:=⟨b,0,none⟩) k.lt).trans k.c0,(hb.cell (p:=⟨b,1,none⟩) k.lt).trans k.c1,(hb.frozen (p:=⟨b,1,none⟩) k.lt).trans k.free⟩
theorem RB.put {w : World} {b : Nat} {u : ByteArray} {p : Int} (k : RB w b u p) (q : Int) : RB (w.setCell ⟨b,1,none⟩ (.int .i64 q)) b u q:=by
 obtain ⟨lt,c0,c1,free⟩:=k
 exact ⟨by simpa using lt,(World.cell?_setCell_other _ ⟨b,1,none⟩ ⟨b,0,none⟩ _ (by simp)).trans c0,World.cell?_setCell_same _ _ _ c1,by simpa using free⟩
theorem must_yes (w : World) : Calls Tryz.prog 73 #[.bool true] w fun e w' => e = .returned (.tuple #[]) /\ w = w':=by
 go_enter Tryz.func73,Tryz.ntmps73
 go_wp2
 go_end0
 exact ⟨rfl,rfl⟩
theorem must_no (w : World) : Calls Tryz.prog 73 #[.bool false] w fun e w' => e = .panicked [{ v:=errV 3,recovered:=false }] /\ w = w':=by
 go_enter Tryz.func73,Tryz.ntmps73
 go_wp2
 exact ⟨rfl,rfl,rfl⟩
theorem num_ok (b : Nat) (u : ByteArray) (a p : Nat) (n : Int) (w : World) (hR : RB w b u (a : Int)) (hu : u.size <= 8000) (ha : a <= u.size) (h : rdS u a 10 0 0 = (n,(p : Int),0)) :
 Calls Tryz.prog 72 #[.pointer (some ⟨b,0,none⟩)] w fun e w' => e = .returned (.int .i64 n) /\ RB w' b u (p : Int) /\ w.grownBy w' (some b):=by
 have HRD : Hid (∀ v : World,Calls Tryz.prog 93 #[.string u,.int .i64 (a : Int)] v fun e w' => e = .returned (.tuple #[.int .i64 n,.int .i64 (p : Int),.nilIface]) /\ Below v.heap.size v w'):=qH (fun v => by
  have hc:=readNum_any u a v (by omega) hu
  rw [h,readV_ok] at hc
  exact hc)
 have HR:=qH hR
 have hFn:=hR.below (Below.refl _ _).drew
 have hBn : Below w.heap.size w w.drew:=(Below.refl _ _).drew
 clear h hR
 go_enter Tryz.func72,Tryz.ntmps72
 go_wp2_with fail
 go_region_held3 (fun v => v.cell? ⟨b,0,none⟩ = some (.string u) /\ v.cell? ⟨b,1,none⟩ = some (.int .i64 (a : Int))) (exact ⟨hFn.c0,hFn.c1⟩)
  (first
   | (go_at_call 93;refine Calls.mono (HRD.out _) ?_;rintro e w1 ⟨rfl,hb⟩;have hFn:=hFn.below hb;have hBn:=hBn.trans (hb.mono hBn.size)))
 all_goals
  have hc1:=hFn.c1
  have hfz:=hFn.free
  have HF:=qH hFn
  have HBn:=qH hBn
  clear hFn hBn
  go_wp2_with fail
  refine (must_yes _).mono ?_
  rintro e w2 ⟨rfl,rfl⟩
  go_wp2_with fail
  go_ret
  exact ⟨rfl,HF.out.put _,grown_trans (fg_below HBn.out) (grown_set _ b 1 _)⟩
theorem num_bad (b : Nat) (u : ByteArray) (a : Nat) (w : World) (hR : RB w b u (a : Int)) (hu : u.size <= 8000) (ha : a <= u.size) (h : (rdS u a 10 0 0).2.2 ≠ 0) :
 Calls Tryz.prog 72 #[.pointer (some ⟨b,0,none⟩)] w fun e w' => e = .panicked [{ v:=errV 3,recovered:=false }] /\ Below w.heap.size w w':=by
 obtain ⟨c,hc⟩ : ∃ c,c = (rdS u a 10 0 0).2.2:=⟨_,rfl⟩
 have HRD : Hid (∀ v : World,Calls Tryz.prog 93 #[.string u,.int .i64 (a : Int)] v fun e w' => e = .returned (.tuple #[.int .i64 0,.int .i64 0,errV c]) /\ Below v.heap.size v w'):=qH (fun v => by
  have hq:=readNum_any u a v (by omega) hu
  rw [rd_zero u a 10 0 0 h,readV_err h,<- hc] at hq
  exact hq)
 have hFn:=hR.below (Below.refl _ _).drew
 have hBn : Below w.heap.size w w.drew:=(Below.refl _ _).drew
 unfold errV at HRD
 clear h hR hc
 go_enter Tryz.func72,Tryz.ntmps72
 go_wp2_with fail
 go_region_held3 (fun v => v.cell? ⟨b,0,none⟩ = some (.string u) /\ v.cell? ⟨b,1,none⟩ = some (.int .i64 (a : Int))) (exact ⟨hFn.c0,hFn.c1⟩)
  (first
   | (go_at_call 93;refine Calls.mono (HRD.out _) ?_;rintro e w1 ⟨rfl,hb⟩;have hFn:=hFn.below hb;have hBn:=hBn.trans (hb.mono hBn.size)))
 all_goals
  have HBn:=qH hBn
  clear hFn hBn
  go_wp2_with fail
  refine (must_no _).mono ?_
  rintro e w2 ⟨rfl,rfl⟩
  go_wp2_with fail
  exact ⟨rfl,rfl,HBn.out⟩
theorem text_ok (b : Nat) (u : ByteArray) (a p : Nat) (t : ByteArray) (w : World) (hR : RB w b u (a : Int)) (hu : u.size <= 8000) (ha : a <= u.size) (h : txtS u a = (t,(p : Int),0)) :
 Calls Tryz.prog 96 #[.pointer (some ⟨b,0,none⟩)] w fun e w' => e = .returned (.string t) /\ RB w' b u (p : Int) /\ w.grownBy w' (some b):=by
 have HRD : Hid (∀ v : World,Calls Tryz.prog 68 #[.string u,.int .i64 (a : Int)] v fun e w' => e = .returned (.tuple #[.string t,.int .i64 (p : Int),.nilIface]) /\ Below v.heap.size v w'):=qH (fun v => by
  have hc:=readText_any u a v (by omega) hu
  rw [h,textV_ok] at hc
  exact hc)
 have hFn:=hR.below (Below.refl _ _).drew
 have hBn : Below w.heap.size w w.drew:=(Below.refl _ _).drew
 clear h hR
 go_enter Tryz.func96,Tryz.ntmps96
 go_wp2_with fail
 go_region_held3 (fun v => v.cell? ⟨b,0,none⟩ = some (.string u) /\ v.cell? ⟨b,1,none⟩ = some (.int .i64 (a : Int))) (exact ⟨hFn.c0,hFn.c1⟩)
  (first
   | (go_at_call 68;refine Calls.mono (HRD.out _) ?_;rintro e w1 ⟨rfl,hb⟩;have hFn:=hFn.below hb;have hBn:=hBn.trans (hb.mono hBn.size)))
 all_goals
  have hc1:=hFn.c1
  have hfz:=hFn.free
  have HF:=qH hFn
  have HBn:=qH hBn
  clear hFn hBn
  go_wp2_with fail
  refine (must_yes _).mono ?_
  rintro e w2 ⟨rfl,rfl⟩
  go_wp2_with fail
  go_ret
  exact ⟨rfl,HF.out.put _,grown_trans (fg_below HBn.out) (grown_set _ b 1 _)⟩
theorem text_bad (b : Nat) (u : ByteArray) (a : Nat) (w : World) (hR : RB w b u (a : Int)) (hu : u.size <= 8000) (ha : a <= u.size) (h : (txtS u a).2.2 ≠ 0) :
 Calls Tryz.prog 96 #[.pointer (some ⟨b,0,none⟩)] w fun e w' => e = .panicked [{ v:=errV 3,recovered:=false }] /\ Below w.heap.size w w':=by
 obtain ⟨c,hc⟩ : ∃ c,c = (txtS u a).2.2:=⟨_,rfl⟩
 have HRD : Hid (∀ v : World,Calls Tryz.prog 68 #[.string u,.int .i64 (a : Int)] v fun e w' => e = .returned (.tuple #[.string ⟨#[]⟩,.int .i64 0,errV c]) /\ Below v.heap.size v w'):=qH (fun v => by
  have hq:=readText_any u a v (by omega) hu
  rw [txt_zero u a h,textV_err h,<- hc] at hq
  exact hq)
 have hFn:=hR.below (Below.refl _ _).drew
 have hBn : Below w.heap.size w w.drew:=(Below.refl _ _).drew
 unfold errV at HRD
 clear h hR hc
 go_enter Tryz.func96,Tryz.ntmps96
 go_wp2_with fail
 go_region_held3 (fun v => v.cell? ⟨b,0,none⟩ = some (.string u) /\ v.cell? ⟨b,1,none⟩ = some (.int .i64 (a : Int))) (exact ⟨hFn.c0,hFn.c1⟩)
  (first
   | (go_at_call 68;refine Calls.mono (HRD.out _) ?_;rintro e w1 ⟨rfl,hb⟩;have hFn:=hFn.below hb;have hBn:=hBn.trans (hb.mono hBn.size)))
 all_goals
  have HBn:=qH hBn
  clear hFn hBn
  go_wp2_with fail
  refine (must_no _).mono ?_
  rintro e w2 ⟨rfl,rfl⟩
  go_wp2_with fail
  exact ⟨rfl,rfl,HBn.out⟩
theorem unsealed_ok (s t : ByteArray) (w : World) (hs : s.size <= maxLen) (hg : ET w) (h : openS s = (t,0,0)) :
 Calls Tryz.prog 71 #[.string s] w fun e w' => e = .returned (.string t) /\ Below w.heap.size w w':=by
 have hc:=implUnseal_any s w hs hg
 rw [h] at hc
 have HC:=qH hc
 clear h hc hg
 go_enter Tryz.func71,Tryz.ntmps71
 go_wp2_with fail
 refine HC.out.mono ?_
 rintro e w1 ⟨rfl,hb⟩
 unfold textOutV
 dsimp only
 have HB:=qH (hb.alloc hb.size (.cells #[.string t,.int .i64 0,.int .i64 0] 69))
 clear hb
 go_wp2_with fail
 go_ret
 exact ⟨rfl,HB.out⟩
theorem unsealed_bad (s : ByteArray) (w : World) (hs : s.size <= maxLen) (hg : ET w) (h : (openS s).2.2 ≠ 0) :
 Calls Tryz.prog 71 #[.string s] w fun e w' => e = .panicked [{ v:=errV (openS s).2.2,recovered:=false }] /\ Below w.heap.size w w':=by
 have hc:=implUnseal_any s w hs hg
 rw [openS_zero s h] at hc
 obtain ⟨c,hcc⟩ : ∃ c,c = (openS s).2.2:=⟨_,rfl⟩
 rw [<- hcc] at hc h ⊢
 have HC:=qH hc
 have hcb : (c != 0) = true:=by simp [h]
 clear h hc hg hcc
 go_enter Tryz.func71,Tryz.ntmps71
 go_wp2_with fail
 refine HC.out.mono ?_
 rintro e w1 ⟨rfl,hb⟩
 unfold textOutV
 dsimp only
 have HB:=qH (hb.alloc hb.size (.cells #[.string ⟨#[]⟩,.int .i64 0,.int .i64 c] 69))
 clear hb
 go_wp2_with fail
 exact ⟨rfl,rfl,HB.out⟩
end Go.Proofs.YtbgoldeopmlbnaaGreatDoor
