/- Used by the law. -/
import Derived.Deep.AppendSrc
import Derived.Deep.Upon
import Derived.Lib.LazyBuf
import Derived.Laws.IdiomCopy
import Derived.Laws.AppendOwn
import Derived.Below
import Derived.Lib.AppendStr
import Derived.Test.YthkbcjnbmciolaaGreatDoorQV28
import Derived.Test.YthkbcjnbmciolaaGreatDoorQV29
set_option maxRecDepth 100000
set_option maxHeartbeats 16000000
namespace Go.Proofs.YthkbcjnbmciolaaGreatDoor
open Go.RowKit Go.PlainAid G IRow MNum MJoin
set_option linter.unusedVariables false
theorem catS_three (a b c : ByteArray) : catS [a,b,c] = a ++ b ++ c:=by
 apply ByteArray.ext
 apply Array.toList_inj.1
 simp [catS,catL]
theorem joined_three (a b c : ByteArray) (T : TypeId) (w : World) (ha : a.size <= 1000000) (hb : b.size <= 1000000) (hc : c.size <= 1000000) :
 Calls Tryz.prog 61 #[.slice (some ⟨w.heap.size,0,none⟩) 3 3] (w.alloc (.cells #[.string a,.string b,.string c] T)) fun r w' => r = .returned (.string (a ++ b ++ c)) /\ Below w.heap.size w w':=by
 refine (joined_any w.heap.size 0 3 [a,b,c] (w.alloc (.cells #[.string a,.string b,.string c] T)) (by simp) ?_ (by simp) (by simp [sumL];omega)).mono ?_
 · intro k hk
   match k,hk with
   | 0,_ => simp
   | 1,_ => simp
   | 2,_ => simp
   | k + 3,hk => simp at hk;omega
 · rintro r w' ⟨rfl,hb⟩
   exact ⟨by rw [catS_three],((Below.refl _ _).alloc (Nat.le_refl _) _).trans (hb.mono (by simp))⟩
theorem catS_four (a b c d : ByteArray) : catS [a,b,c,d] = a ++ b ++ c ++ d:=by
 apply ByteArray.ext
 apply Array.toList_inj.1
 simp [catS,catL]
theorem joined_four (a b c d : ByteArray) (T : TypeId) (w : World) (ha : a.size <= 1000000) (hb : b.size <= 1000000) (hc : c.size <= 1000000) (hd : d.size <= 1000000) :
 Calls Tryz.prog 61 #[.slice (some ⟨w.heap.size,0,none⟩) 4 4] (w.alloc (.cells #[.string a,.string b,.string c,.string d] T)) fun r w' => r = .returned (.string (a ++ b ++ c ++ d)) /\ Below w.heap.size w w':=by
 refine (joined_any w.heap.size 0 4 [a,b,c,d] (w.alloc (.cells #[.string a,.string b,.string c,.string d] T)) (by simp) ?_ (by simp) (by simp [sumL];omega)).mono ?_
 · intro k hk
   match k,hk with
   | 0,_ => simp
   | 1,_ => simp
   | 2,_ => simp
   | 3,_ => simp
   | k + 4,hk => simp at hk;omega
 · rintro r w' ⟨rfl,hb⟩
   exact ⟨by rw [catS_four],((Below.refl _ _).alloc (Nat.le_refl _) _).trans (hb.mono (by simp))⟩
theorem putT_size {t : ByteArray} (ht : t.size <= 20) : (putTextS t).size <= 30:=by
 rw [putTextS_short (by omega),ByteArray.size_append]
 have:=(numS_size (t.size : Int)).2
 omega
theorem bytes1_any (q1 q2 q3 q4 : Int) (w : World) (h1 : 1 <= q1 /\ q1 <= 999) (h2 : 1 <= q2 /\ q2 <= 10) (h3 : q2 <= q3 /\ q3 <= 20) (h4 : 0 <= q4 /\ q4 <= 4294967295) :
 Calls Tryz.prog 211 #[.agg #[.int .i64 q1,.int .i64 q2,.int .i64 q3,.int .i64 q4]] w fun e w' => e = .returned (.string (numS q1 ++ numS q2 ++ numS q3 ++ numS q4)) /\ Below w.heap.size w w':=by
 obtain ⟨W,hW⟩ : ∃ W,W = w.alloc (.cells #[.int .i64 q1,.int .i64 q2,.int .i64 q3,.int .i64 q4] 213):=⟨_,rfl⟩
 have HA : Hid (BoxC W w.heap.size [.int .i64 q1,.int .i64 q2,.int .i64 q3,.int .i64 q4]):=qH (by rw [hW];exact BoxC.made _ _ _)
 have HW0 : Hid (Below w.heap.size w W):=qH (by rw [hW];exact (Below.refl _ _).alloc (Nat.le_refl _) _)
 have HC : Hid (∀ u : World,Below W.heap.size W u -> u.cell? ⟨w.heap.size,0,none⟩ = some (.int .i64 q1) /\ u.cell? ⟨w.heap.size,1,none⟩ = some (.int .i64 q2) /\ u.cell? ⟨w.heap.size,2,none⟩ = some (.int .i64 q3) /\ u.cell? ⟨w.heap.size,3,none⟩ = some (.int .i64 q4)):=qH (fun u hu => ⟨(HA.out.below hu).cell 0 _ rfl,(HA.out.below hu).cell 1 _ rfl,(HA.out.below hu).cell 2 _ rfl,(HA.out.below hu).cell 3 _ rfl⟩)
 have P0 : Hid (∀ u,Calls Tryz.prog 134 #[.int .i64 q1] u fun e w' => e = .returned (.string (numS q1)) /\ Below u.heap.size u w'):=qH (fun u => implPutNum_any q1 u (i64_in (by omega) (by omega)))
 have z0:=(numS_size q1).2
 have P1 : Hid (∀ u,Calls Tryz.prog 134 #[.int .i64 q2] u fun e w' => e = .returned (.string (numS q2)) /\ Below u.heap.size u w'):=qH (fun u => implPutNum_any q2 u (i64_in (by omega) (by omega)))
 have z1:=(numS_size q2).2
 have P2 : Hid (∀ u,Calls Tryz.prog 134 #[.int .i64 q3] u fun e w' => e = .returned (.string (numS q3)) /\ Below u.heap.size u w'):=qH (fun u => implPutNum_any q3 u (i64_in (by omega) (by omega)))
 have z2:=(numS_size q3).2
 have P3 : Hid (∀ u,Calls Tryz.prog 134 #[.int .i64 q4] u fun e w' => e = .returned (.string (numS q4)) /\ Below u.heap.size u w'):=qH (fun u => implPutNum_any q4 u (i64_in (by omega) (by omega)))
 have z3:=(numS_size q4).2
 generalize numS q1 = p0 at *
 generalize numS q2 = p1 at *
 generalize numS q3 = p2 at *
 generalize numS q4 = p3 at *
 have HJ : Hid (∀ (u : World),Calls Tryz.prog 61 #[.slice (some ⟨u.heap.size,0,none⟩) 4 4] (u.alloc (.cells #[.string p0,.string p1,.string p2,.string p3] 9)) fun r w' => r = .returned (.string (p0 ++ p1 ++ p2 ++ p3)) /\ Below u.heap.size u w'):=qH (fun u => joined_four p0 p1 p2 p3 _ u (by omega) (by omega) (by omega) (by omega))
 clear HA z0 z1 z2 z3
 have hFn : Below W.heap.size W W.drew:=(Below.refl _ _).drew
 go_enter Tryz.func211,Tryz.ntmps211
 go_wp2_with fail
 rw [<- hW]
 clear hW
 go_region_held3 (fun u => u.cell? ⟨w.heap.size,0,none⟩ = some (.int .i64 q1) /\ u.cell? ⟨w.heap.size,1,none⟩ = some (.int .i64 q2) /\ u.cell? ⟨w.heap.size,2,none⟩ = some (.int .i64 q3) /\ u.cell? ⟨w.heap.size,3,none⟩ = some (.int .i64 q4)) (first | (exact HC.out _ hFn) | (exact HC.out _ (hFn.alloc hFn.size _)))
  (first | (go_at_call 134;(with_reducible refine Calls.mono (P0.out _) ?_);rintro e w1 ⟨rfl,hb⟩;have hFn:=hFn.trans (hb.mono hFn.size);clear hb) | (go_at_call 134;(with_reducible refine Calls.mono (P1.out _) ?_);rintro e w1 ⟨rfl,hb⟩;have hFn:=hFn.trans (hb.mono hFn.size);clear hb) | (go_at_call 134;(with_reducible refine Calls.mono (P2.out _) ?_);rintro e w1 ⟨rfl,hb⟩;have hFn:=hFn.trans (hb.mono hFn.size);clear hb) | (go_at_call 134;(with_reducible refine Calls.mono (P3.out _) ?_);rintro e w1 ⟨rfl,hb⟩;have hFn:=hFn.trans (hb.mono hFn.size);clear hb) | (go_at_call 61;refine Calls.mono (HJ.out _) ?_;rintro e w1 ⟨rfl,hb⟩;have hFn:=hFn.trans (hb.mono hFn.size);clear hb))
 all_goals
  go_wp2_with fail
  go_ret
  exact ⟨rfl,HW0.out.trans (hFn.mono HW0.out.size)⟩
theorem bytes2_any (q5 : Int) (q6 : ByteArray) (w : World) (h5 : 1 <= q5 /\ q5 <= 5) (h6 : q6.size <= 16) :
 Calls Tryz.prog 216 #[.agg #[.int .i64 q5,.string q6]] w fun e w' => e = .returned (.string (numS q5 ++ putTextS q6)) /\ Below w.heap.size w w':=by
 obtain ⟨W,hW⟩ : ∃ W,W = w.alloc (.cells #[.int .i64 q5,.string q6] 219):=⟨_,rfl⟩
 have HA : Hid (BoxC W w.heap.size [.int .i64 q5,.string q6]):=qH (by rw [hW];exact BoxC.made _ _ _)
 have HW0 : Hid (Below w.heap.size w W):=qH (by rw [hW];exact (Below.refl _ _).alloc (Nat.le_refl _) _)
 have HC : Hid (∀ u : World,Below W.heap.size W u -> u.cell? ⟨w.heap.size,0,none⟩ = some (.int .i64 q5) /\ u.cell? ⟨w.heap.size,1,none⟩ = some (.string q6)):=qH (fun u hu => ⟨(HA.out.below hu).cell 0 _ rfl,(HA.out.below hu).cell 1 _ rfl⟩)
 have P0 : Hid (∀ u,Calls Tryz.prog 134 #[.int .i64 q5] u fun e w' => e = .returned (.string (numS q5)) /\ Below u.heap.size u w'):=qH (fun u => implPutNum_any q5 u (i64_in (by omega) (by omega)))
 have z0:=(numS_size q5).2
 have P1 : Hid (∀ u,Calls Tryz.prog 137 #[.string q6] u fun e w' => e = .returned (.string (putTextS q6)) /\ Below u.heap.size u w'):=qH (fun u => implPutText_any q6 u (by unfold maxLen;omega))
 have z1:=putT_size (t:=q6) (by omega)
 generalize numS q5 = p0 at *
 generalize putTextS q6 = p1 at *
 have HJ : Hid (∀ (u : World),Calls Tryz.prog 61 #[.slice (some ⟨u.heap.size,0,none⟩) 2 2] (u.alloc (.cells #[.string p0,.string p1] 9)) fun r w' => r = .returned (.string (p0 ++ p1)) /\ Below u.heap.size u w'):=qH (fun u => joined_two p0 p1 _ u (by omega) (by omega))
 clear HA z0 z1
 have hFn : Below W.heap.size W W.drew:=(Below.refl _ _).drew
 go_enter Tryz.func216,Tryz.ntmps216
 go_wp2_with fail
 rw [<- hW]
 clear hW
 go_region_held3 (fun u => u.cell? ⟨w.heap.size,0,none⟩ = some (.int .i64 q5) /\ u.cell? ⟨w.heap.size,1,none⟩ = some (.string q6)) (first | (exact HC.out _ hFn) | (exact HC.out _ (hFn.alloc hFn.size _)))
  (first | (go_at_call 134;(with_reducible refine Calls.mono (P0.out _) ?_);rintro e w1 ⟨rfl,hb⟩;have hFn:=hFn.trans (hb.mono hFn.size);clear hb) | (go_at_call 137;(with_reducible refine Calls.mono (P1.out _) ?_);rintro e w1 ⟨rfl,hb⟩;have hFn:=hFn.trans (hb.mono hFn.size);clear hb) | (go_at_call 61;refine Calls.mono (HJ.out _) ?_;rintro e w1 ⟨rfl,hb⟩;have hFn:=hFn.trans (hb.mono hFn.size);clear hb))
 all_goals
  go_wp2_with fail
  go_ret
  exact ⟨rfl,HW0.out.trans (hFn.mono HW0.out.size)⟩
theorem bytes3_any (q7 : ByteArray) (q8 : Int) (q9 : ByteArray) (w : World) (h7 : q7.size <= 8) (h8 : 1 <= q8 /\ q8 <= 5) (h9 : q9.size <= 20) :
 Calls Tryz.prog 221 #[.agg #[.string q7,.int .i64 q8,.string q9]] w fun e w' => e = .returned (.string (putTextS q7 ++ numS q8 ++ putTextS q9)) /\ Below w.heap.size w w':=by
 obtain ⟨W,hW⟩ : ∃ W,W = w.alloc (.cells #[.string q7,.int .i64 q8,.string q9] 220):=⟨_,rfl⟩
 have HA : Hid (BoxC W w.heap.size [.string q7,.int .i64 q8,.string q9]):=qH (by rw [hW];exact BoxC.made _ _ _)
 have HW0 : Hid (Below w.heap.size w W):=qH (by rw [hW];exact (Below.refl _ _).alloc (Nat.le_refl _) _)
 have HC : Hid (∀ u : World,Below W.heap.size W u -> u.cell? ⟨w.heap.size,0,none⟩ = some (.string q7) /\ u.cell? ⟨w.heap.size,1,none⟩ = some (.int .i64 q8) /\ u.cell? ⟨w.heap.size,2,none⟩ = some (.string q9)):=qH (fun u hu => ⟨(HA.out.below hu).cell 0 _ rfl,(HA.out.below hu).cell 1 _ rfl,(HA.out.below hu).cell 2 _ rfl⟩)
 have P0 : Hid (∀ u,Calls Tryz.prog 137 #[.string q7] u fun e w' => e = .returned (.string (putTextS q7)) /\ Below u.heap.size u w'):=qH (fun u => implPutText_any q7 u (by unfold maxLen;omega))
 have z0:=putT_size (t:=q7) (by omega)
 have P1 : Hid (∀ u,Calls Tryz.prog 134 #[.int .i64 q8] u fun e w' => e = .returned (.string (numS q8)) /\ Below u.heap.size u w'):=qH (fun u => implPutNum_any q8 u (i64_in (by omega) (by omega)))
 have z1:=(numS_size q8).2
 have P2 : Hid (∀ u,Calls Tryz.prog 137 #[.string q9] u fun e w' => e = .returned (.string (putTextS q9)) /\ Below u.heap.size u w'):=qH (fun u => implPutText_any q9 u (by unfold maxLen;omega))
 have z2:=putT_size (t:=q9) (by omega)
 generalize putTextS q7 = p0 at *
 generalize numS q8 = p1 at *
 generalize putTextS q9 = p2 at *
 have HJ : Hid (∀ (u : World),Calls Tryz.prog 61 #[.slice (some ⟨u.heap.size,0,none⟩) 3 3] (u.alloc (.cells #[.string p0,.string p1,.string p2] 9)) fun r w' => r = .returned (.string (p0 ++ p1 ++ p2)) /\ Below u.heap.size u w'):=qH (fun u => joined_three p0 p1 p2 _ u (by omega) (by omega) (by omega))
 clear HA z0 z1 z2
 have hFn : Below W.heap.size W W.drew:=(Below.refl _ _).drew
 go_enter Tryz.func221,Tryz.ntmps221
 go_wp2_with fail
 rw [<- hW]
 clear hW
 go_region_held3 (fun u => u.cell? ⟨w.heap.size,0,none⟩ = some (.string q7) /\ u.cell? ⟨w.heap.size,1,none⟩ = some (.int .i64 q8) /\ u.cell? ⟨w.heap.size,2,none⟩ = some (.string q9)) (first | (exact HC.out _ hFn) | (exact HC.out _ (hFn.alloc hFn.size _)))
  (first | (go_at_call 137;(with_reducible refine Calls.mono (P0.out _) ?_);rintro e w1 ⟨rfl,hb⟩;have hFn:=hFn.trans (hb.mono hFn.size);clear hb) | (go_at_call 134;(with_reducible refine Calls.mono (P1.out _) ?_);rintro e w1 ⟨rfl,hb⟩;have hFn:=hFn.trans (hb.mono hFn.size);clear hb) | (go_at_call 137;(with_reducible refine Calls.mono (P2.out _) ?_);rintro e w1 ⟨rfl,hb⟩;have hFn:=hFn.trans (hb.mono hFn.size);clear hb) | (go_at_call 61;refine Calls.mono (HJ.out _) ?_;rintro e w1 ⟨rfl,hb⟩;have hFn:=hFn.trans (hb.mono hFn.size);clear hb))
 all_goals
  go_wp2_with fail
  go_ret
  exact ⟨rfl,HW0.out.trans (hFn.mono HW0.out.size)⟩
theorem bytes4_any (q7 : ByteArray) (w : World) (h7 : q7.size <= 8) :
 Calls Tryz.prog 228 #[.string q7] w fun e w' => e = .returned (.string (putTextS q7)) /\ Below w.heap.size w w':=by
 go_enter Tryz.func228,Tryz.ntmps228
 go_wp2_with fail
 refine (implPutText_any q7 _ (by unfold maxLen;omega)).mono ?_
 rintro e w1 ⟨rfl,hb⟩
 have HB1:=qH hb
 clear hb
 go_wp2_with fail
 go_ret
 exact ⟨rfl,HB1.out⟩
theorem catS_size (ps : List ByteArray) : (catS ps).size = sumL ps:=by rw [<- catL_len];simp [catS,ByteArray.size]
theorem catS_more (ps : List ByteArray) (a b : ByteArray) : catS (ps ++ [a,b]) = catS ps ++ (a ++ b):=by
 apply ByteArray.ext
 apply Array.toList_inj.1
 simp [catS,catL]
theorem sumL_more (ps : List ByteArray) (a b : ByteArray) : sumL (ps ++ [a,b]) = sumL ps + (a.size + b.size):=by simp [sumL]
theorem deed_bytes {q0 q1 q2 q3 q4 q5 : Int} {q6 q7 : ByteArray} {q8 : Int} {q9 : ByteArray} (hB : deedB q0 q1 q2 q3 q4 q5 q6 q7 q8 q9 = true) :
 ∃ (T : TypeId) (v : Value) (F : FuncId) (rest : ByteArray),(∀ u,Calls Tryz.prog 136 #[.agg #[.int .i64 q0,.int .i64 q1,.int .i64 q2,.int .i64 q3,.int .i64 q4,.int .i64 q5,.string q6,.string q7,.int .i64 q8,.string q9]] u fun e w' => e = .returned (.iface T v) /\ Below u.heap.size u w') ∧
  (∀ u, (nilAhead 407 T v "loop.example/g00839/impl.bytes").run Tryz.prog u = .ok (some false) u) /\ (∀ u, (method 407 T v "loop.example/g00839/impl.bytes").run Tryz.prog u = .ok (F, v) u) /\ (∀ u, (callFunc F #[v]).run Tryz.prog u = .ok (.enter F #[v]) u) ∧
  (∀ u,Calls Tryz.prog F #[v] u fun e w' => e = .returned (.string rest) /\ Below u.heap.size u w') /\ numS q0 ++ rest = deedT q0 q1 q2 q3 q4 q5 q6 q7 q8 q9:=by
 rcases deedB_bounds hB with ⟨rfl,h1,h2,h3,h4⟩ | ⟨rfl,h5,h6⟩ | ⟨rfl,h7,h8,h9⟩ | ⟨rfl,h7⟩
 · exact ⟨_,_,_,_,fun u => deedOf1_any 1 q1 q2 q3 q4 q5 q6 q7 q8 q9 rfl u,fun u => nil_bytes1 q1 q2 q3 q4 u,fun u => met_bytes1 q1 q2 q3 q4 u,fun u => by kernel_rfl,fun u => bytes1_any q1 q2 q3 q4 u h1 h2 h3 h4,by unfold deedT;rw [if_pos rfl];simp only [ByteArray.append_assoc]⟩
 · exact ⟨_,_,_,_,fun u => deedOf2_any 2 q1 q2 q3 q4 q5 q6 q7 q8 q9 rfl u,fun u => nil_bytes2 q5 q6 u,fun u => met_bytes2 q5 q6 u,fun u => by kernel_rfl,fun u => bytes2_any q5 q6 u h5 h6.2,by unfold deedT;rw [if_neg (by decide),if_pos rfl];simp only [ByteArray.append_assoc]⟩
 · exact ⟨_,_,_,_,fun u => deedOf3_any 3 q1 q2 q3 q4 q5 q6 q7 q8 q9 rfl u,fun u => nil_bytes3 q7 q8 q9 u,fun u => met_bytes3 q7 q8 q9 u,fun u => by kernel_rfl,fun u => bytes3_any q7 q8 q9 u h7.2 h8 h9.2,by unfold deedT;rw [if_neg (by decide),if_neg (by decide),if_pos rfl];simp only [ByteArray.append_assoc]⟩
 · exact ⟨_,_,_,_,fun u => deedOf4_any 4 q1 q2 q3 q4 q5 q6 q7 q8 q9 rfl u,fun u => nil_bytes4 q7 u,fun u => met_bytes4 q7 u,fun u => by kernel_rfl,fun u => bytes4_any q7 u h7.2,by unfold deedT;rw [if_neg (by decide),if_neg (by decide),if_neg (by decide)]⟩
theorem implTxBytes_any (a : Option Addr) (n cap : Nat) (ds : List Dd) (w : World) (h : DdR w a n cap ds) (hn : n <= 1048576) (hs : ∀ t,t < n -> (ds.getD t ddD).lk.size <= maxLen /\ (ds.getD t ddD).nm.size <= maxLen /\ (ds.getD t ddD).bd.size <= maxLen) :
 Calls Tryz.prog 101 #[.slice a n cap] w fun e w' => e = .returned (.string (txS ds)) /\ Below w.heap.size w w':=by
 have hl : ds.length = n:=h.len
 have HS:=qH hs
 clear hs
 by_cases h1 : 1 <= n
 · by_cases h2 : n <= 10
   · have hz:=(numS_size (n : Int)).2
     go_enter Tryz.func101,Tryz.ntmps101
     go_wp2_with fail
     refine (implPutNum_any (n : Int) _ (i64_in (by omega) (by omega))).mono ?_
     rintro e w1 ⟨rfl,hb⟩
     have HB1:=qH (hb.alloc hb.size (.cells #[.string (numS (n : Int))] 9))
     have HO1 : Hid ((w1.alloc (.cells #[.string (numS (n : Int))] 9)).ownsRow w.heap.size 9 stE.k (.slice (some ⟨w1.heap.size,0,none⟩) 1 1) 1 (stE.flat [numS (n : Int)])):=qH (World.ownsRow_lit w1 #[.string (numS (n : Int))] 1 hb.size (by decide) rfl)
     clear hb
     go_wp2_with fail
     go_loopw [3,20] (fun p i wr => ∃ (k : Nat) (ps : List ByteArray) (pv : Value),k <= n /\ p = pv /\ i = .int .i64 k /\ wr.ownsRow w.heap.size 9 stE.k pv (1 + 2 * k) (stE.flat ps) /\ ps.length = 1 + 2 * k /\ Hid (catS ps = txTo ds k) /\ Hid (sumL ps <= 10 + 300 * k) /\ Hid (allTo' (fun i => deedOf (ds.getD i ddD)) k = true) /\ Hid (Below w.heap.size w wr)) (fun _ i _ => n - (intOf i).toNat)
     case atStart => exact ⟨0,[numS (n : Int)],_,Nat.zero_le _,rfl,rfl,HO1.out,rfl,qH (by rw [txTo_zero,hl,catS_one]),qH (by simp [sumL];omega),qH rfl,HB1⟩
     case round =>
      obtain ⟨k,ps,p,hk,hp,rfl,hO,hpl,HC,HSM,HA,HB⟩:=hrel
      have hp2:=hp.symm
      clear hp
      subst hp2
      clear HB1 HO1
      by_cases hlt : k < n
      · obtain ⟨g,o,rfl,hg,t0,t1,t2,t3,t4,t5,t6,t7,t8,t9⟩:=DdR.at (SR.below h HB.out) hlt
        have hin : 0 <= (k : Int) /\ (k : Int) < (n : Int):=by omega
        have hsj:=HS.out k hlt
        have HST:=qH (txTo_succ (ds:=ds) (k:=k) (by omega))
        have HD : Hid (deedOf (ds.getD k ddD) = deedB (ds.getD k ddD).kd (ds.getD k ddD).gn (ds.getD k ddD).nd (ds.getD k ddD).mn (ds.getD k ddD).ck (ds.getD k ddD).no (ds.getD k ddD).lk (ds.getD k ddD).nm (ds.getD k ddD).tm (ds.getD k ddD).bd):=qH rfl
        have HTX : Hid (deedTx (ds.getD k ddD) = deedT (ds.getD k ddD).kd (ds.getD k ddD).gn (ds.getD k ddD).nd (ds.getD k ddD).mn (ds.getD k ddD).ck (ds.getD k ddD).no (ds.getD k ddD).lk (ds.getD k ddD).nm (ds.getD k ddD).tm (ds.getD k ddD).bd):=qH rfl
        generalize (ds.getD k ddD).kd = q0 at *
        generalize (ds.getD k ddD).gn = q1 at *
        generalize (ds.getD k ddD).nd = q2 at *
        generalize (ds.getD k ddD).mn = q3 at *
        generalize (ds.getD k ddD).ck = q4 at *
        generalize (ds.getD k ddD).no = q5 at *
        generalize (ds.getD k ddD).lk = q6 at *
        generalize (ds.getD k ddD).nm = q7 at *
        generalize (ds.getD k ddD).tm = q8 at *
        generalize (ds.getD k ddD).bd = q9 at *
        obtain ⟨V,hV⟩ : ∃ V,V = wr.alloc (.cells #[.int .i64 q0,.int .i64 q1,.int .i64 q2,.int .i64 q3,.int .i64 q4,.int .i64 q5,.string q6,.string q7,.int .i64 q8,.string q9] 145):=⟨_,rfl⟩
        have hbv : Below w.heap.size w V:=by rw [hV];exact HB.out.alloc HB.out.size _
        have HX : Hid (BoxC V wr.heap.size [.int .i64 q0,.int .i64 q1,.int .i64 q2,.int .i64 q3,.int .i64 q4,.int .i64 q5,.string q6,.string q7,.int .i64 q8,.string q9]):=qH (by rw [hV];exact BoxC.made _ _ _)
        have hOV:=World.ownsRow.alloc hO (.cells #[.int .i64 q0,.int .i64 q1,.int .i64 q2,.int .i64 q3,.int .i64 q4,.int .i64 q5,.string q6,.string q7,.int .i64 q8,.string q9] 145)
        rw [<- hV] at hOV
        go_wp2_with fail
        rw [<- hV]
        clear hV
        refine (implDeedRight_any q0 q1 q2 q3 q4 q5 q6 q7 q8 q9 _ hsj.1 hsj.2.1 hsj.2.2).mono ?_
        rintro e w5 ⟨rfl,hb⟩
        have HB5:=qH (hbv.trans (hb.mono hbv.size))
        have HX5:=qH (HX.out.below hb)
        have hOLD : Hid (∀ q,p.ownBlock = some q -> q < wr.heap.size):=qH (fun q hq => (hO.lt q hq).2)
        have HO5:=qH (own_below hOV hb)
        clear hb hbv hOV hO HX t0 t1 t2 t3 t4 t5 t6 t7 t8 t9 HB
        cases hv : deedB q0 q1 q2 q3 q4 q5 q6 q7 q8 q9
        · have HF:=qH (txS_no (ds:=ds) (by unfold txOk;rw [hl,allTo'_no hlt (by rw [HD.out];exact hv),Bool.and_false])).symm
          go_wp2_with fail
          go_ret
          exact ⟨ret_string HF.out,HB5.out⟩
        · have hz5:=deedT_size hv
          have HA2:=qH (allTo'_succ HA.out (by rw [HD.out];exact hv))
          have hbd:=deedB_bounds hv
          go_wp2_with fail
          have hmx : Tryz.prog.follows .mixedOrders = true:=by kernel_rfl
          obtain ⟨T,v,F,rest,hdo,hnl,hme,hcf,hby,hrt⟩:=deed_bytes hv
          have hzk:=(numS_size q0).2
          have HPN : Hid (∀ u,Calls Tryz.prog 134 #[.int .i64 q0] u fun e w' => e = .returned (.string (numS q0)) /\ Below u.heap.size u w'):=qH (fun u => implPutNum_any q0 u (i64_in (by omega) (by omega)))
          have HNEW : Hid (txTo ds (k + 1) = catS ps ++ (numS q0 ++ rest)):=qH (by rw [HST.out,HTX.out,<- hrt,HC.out])
          have HNS : Hid (sumL (ps ++ [numS q0,rest]) <= 10 + 300 * (k + 1)):=qH (by
           have e1 : (numS q0 ++ rest).size <= 200:=by rw [hrt];exact hz5
           rw [ByteArray.size_append] at e1
           have:=HSM.out
           rw [sumL_more]
           omega)
          generalize numS q0 = nk at *
          have HDO:=qH hdo
          have HBY:=qH hby
          clear hrt hdo hby hbd hz5 HST HTX HD hsj hv HC HSM
          obtain ⟨i0,hi0,hz0,hs0,hy0⟩:=info_parts infoStr
          refine TillZ.region (t:=9) hmx (fun u => BoxC u wr.heap.size [.int .i64 q0,.int .i64 q1,.int .i64 q2,.int .i64 q3,.int .i64 q4,.int .i64 q5,.string q6,.string q7,.int .i64 q8,.string q9]) ?_
          have hS0:=HX5.out.drew
          refine TillZ.take4 (i:=0) (v:=p) rfl rfl rfl (by kernel_rfl) hS0 (fun u hu => by go_simp) ?_
          simp only [pS,List.set,zT,zZ]
          refine TillZ.take4 (i:=1) (v:=.pointer (some ⟨wr.heap.size,0,none⟩)) rfl rfl rfl (by kernel_rfl) hS0 (fun u hu => by go_simp) ?_
          simp only [pS,List.set,zT,zZ,zU]
          refine TillZ.take4 (i:=2) (v:=.int .i64 q0) rfl rfl rfl (by kernel_rfl) hS0 (fun u hu => by have x0:=hu.cell 0 _ rfl;go_simp) ?_
          simp only [pS,List.set,zT,zZ,zU]
          refine TillZ.take4 (i:=4) (v:=.agg #[.int .i64 q0,.int .i64 q1,.int .i64 q2,.int .i64 q3,.int .i64 q4,.int .i64 q5,.string q6,.string q7,.int .i64 q8,.string q9]) rfl rfl rfl (by kernel_rfl) hS0 (fun u hu => by have x0:=hu.cell 0 _ rfl;have x1:=hu.cell 1 _ rfl;have x2:=hu.cell 2 _ rfl;have x3:=hu.cell 3 _ rfl;have x4:=hu.cell 4 _ rfl;have x5:=hu.cell 5 _ rfl;have x6:=hu.cell 6 _ rfl;have x7:=hu.cell 7 _ rfl;have x8:=hu.cell 8 _ rfl;have x9:=hu.cell 9 _ rfl;go_simp) ?_
          simp only [pS,List.set,zT,zZ,zU]
          refine TillZ.call (i:=3) (f:=134) (args:=#[.int .i64 q0]) (by kernel_rfl) rfl rfl rfl (by go_simp) ?_
          refine Calls.mono (HPN.out _) ?_
          rintro e w6 ⟨rfl,hb⟩
          have hS1:=hS0.below hb
          have HB6:=qH (HB5.out.drew.trans (hb.mono HB5.out.size))
          have HO6:=qH (own_below (World.ownsRow.drew HO5.out) hb)
          refine ⟨_,rfl,hS1,?_⟩
          clear hb hS0
          simp only [pS,List.set,zT,zZ,zU]
          refine TillZ.call (i:=5) (f:=136) (args:=#[.agg #[.int .i64 q0,.int .i64 q1,.int .i64 q2,.int .i64 q3,.int .i64 q4,.int .i64 q5,.string q6,.string q7,.int .i64 q8,.string q9]]) (by kernel_rfl) rfl rfl rfl (by go_simp) ?_
          refine Calls.mono (HDO.out _) ?_
          rintro e w7 ⟨rfl,hb⟩
          have hS2:=hS1.below hb
          have HB7:=qH (HB6.out.trans (hb.mono HB6.out.size))
          have HO7:=qH (own_below HO6.out hb)
          refine ⟨_,rfl,hS2,?_⟩
          clear hb hS1
          simp only [pS,List.set,zT,zZ,zU]
          refine TillZ.call (i:=6) (f:=F) (args:=#[v]) (by kernel_rfl) rfl rfl rfl (by first | (go_simp;done) | (go_simp;rw [hme];go_simp;done) | (go_simp;rw [hme];go_simp;rw [hcf])) ?_
          refine Calls.mono (HBY.out _) ?_
          rintro e w8 ⟨rfl,hb⟩
          have hS3:=hS2.below hb
          have HB8:=qH (HB7.out.trans (hb.mono HB7.out.size))
          have HO8:=qH (own_below HO7.out hb)
          refine ⟨_,rfl,hS3,?_⟩
          clear hb hS2
          simp only [pS,List.set,zT,zZ,zU]
          refine TillZ.one (i:=7) (by kernel_rfl) ?_
          refine TillZ.opz (i:=7) (v:=.slice (some ⟨w8.heap.size,0,none⟩) 2 2) (w':=w8.alloc (.cells #[.string nk,.string rest] 9)) rfl rfl rfl (by go_simp) (hS3.alloc _) ?_
          simp only [pS,List.set,zT,zZ,zU]
          have hS4:=hS3.alloc (.cells #[.string nk,.string rest] 9)
          have HB9:=qH (HB8.out.alloc HB8.out.size (.cells #[.string nk,.string rest] 9))
          have hO9:=World.ownsRow.alloc HO8.out (.cells #[.string nk,.string rest] 9)
          have hL : SR stE ByteArray.empty (w8.alloc (.cells #[.string nk,.string rest] 9)) (some ⟨w8.heap.size,0,none⟩) 2 2 [nk,rest]:=SR.own (by decide) (World.ownsRow_lit w8 #[.string nk,.string rest] 2 (Nat.le_refl _) (by decide) rfl)
          refine TillZ.one (i:=8) (by kernel_rfl) ?_
          refine append_opz stE ByteArray.empty (i:=8) (.tmp 27) (.tmp 34) 131 rfl rfl rfl rfl 9 i0 _ 16 Tryz.underlying131 hi0 hz0 hs0 hy0 rfl (by decide) (by decide) w.heap.size p (1 + 2 * k) ps rfl hO9 _ 2 2 [nk,rest] rfl hL HB9.out.size (by omega) (by omega) (fun v2 u2 O2 G2 => ?_)
          simp only [pS,List.set,zT,zZ,zU]
          have HB10 : Hid (Below w.heap.size w u2):=qH (HB9.out.grown G2 HB9.out.size (fun q hq => (hO9.lt q hq).1))
          refine ⟨hS4.grown G2 (fun e => by have:=hOLD.out _ e.symm;omega),?_⟩
          refine TillZ.hand (v:=v2) (by kernel_rfl) rfl rfl (by go_simp) ?_
          simp only [pS,List.set,zT,zZ,zU]
          refine TillZ.any_done (by kernel_rfl) ?_ _
          go_wp2_with fail
          go_roundw
          case rel => exact ⟨k + 1,ps ++ [nk,rest],_,by omega,rfl,by go_num,by rwa [show 1 + 2 * k + 2 = 1 + 2 * (k + 1) by omega] at O2,by simp [hpl];omega,qH (by rw [catS_more,HNEW.out]),HNS,HA2,HB10⟩
          case measure => simp [intOf] <;> omega
      · obtain rfl : n = k:=by omega
        have HOK : Hid (txOk ds = true):=qH (by unfold txOk;rw [hl,decide_eq_true ⟨h1,h2⟩,HA.out];rfl)
        have HF:=qH (txS_yes HOK.out).symm
        rw [hl,<- HC.out] at HF
        have hsm:=HSM.out
        obtain ⟨ao,co,rfl⟩:=own_shape hO
        have hSR : SR stE ByteArray.empty wr ao (1 + 2 * n) co ps:=SR.own (by decide) hO
        obtain ⟨g,o,rfl,hg,hcs⟩:=hSR.cells (by omega)
        have HJ:=qH (joined_any g o co ps wr hg (fun j hj => by have:=hcs j (by omega) 0 _ rfl;simpa [stE] using this) (by omega) (by omega))
        rw [hpl] at HJ
        have hcz : (catS ps).size = sumL ps:=catS_size ps
        have HJS : Hid ((catS ps).size <= maxLen):=qH (by rw [hcz];unfold maxLen;omega)
        have hss : (sealS (catS ps)).size <= maxLen:=by rw [sealS_yes (by omega),ByteArray.size_append,crc4_size];unfold maxLen;omega
        have HSS:=qH hss
        clear hss hcz hsm hcs hSR hO hpl
        go_wp2_with fail
        refine Calls.mono HJ.out ?_
        rintro e w2 ⟨rfl,hb⟩
        have HB2:=qH (HB.out.trans (hb.mono HB.out.size))
        clear hb
        go_wp2_with fail
        refine Calls.mono (implSeal_any _ _ HJS.out) ?_
        rintro e w3 ⟨rfl,hb⟩
        have HB3:=qH (HB2.out.trans (hb.mono HB2.out.size))
        clear hb
        go_wp2_with fail
        refine Calls.mono (implPutText_any _ _ HSS.out) ?_
        rintro e w4 ⟨rfl,hb⟩
        have HB4:=qH (HB3.out.trans (hb.mono HB3.out.size))
        clear hb
        go_wp2_with fail
        go_ret
        exact ⟨ret_string HF.out,HB4.out⟩
   · have HF:=qH (txS_no (ds:=ds) (by unfold txOk;rw [hl,decide_eq_false (by omega),Bool.false_and])).symm
     go_enter Tryz.func101,Tryz.ntmps101
     go_wp2_with fail
     go_ret
     exact ⟨ret_string HF.out,Below.refl _ _⟩
 · have HF:=qH (txS_no (ds:=ds) (by unfold txOk;rw [hl,decide_eq_false (by omega),Bool.false_and])).symm
   go_enter Tryz.func101,Tryz.ntmps101
   go_wp2_with fail
   go_ret
   exact ⟨ret_string HF.out,Below.refl _ _⟩
end Go.Proofs.YthkbcjnbmciolaaGreatDoor
namespace Go.Proofs.YthkbcjnbmciolaaGreatDoor
open Go.RowKit Go
def BS (w : World) (base : Nat) (a : Option Addr) (n c : Nat) (s : ByteArray) : Prop :=
 n = s.size /\ n <= c /\ ((a = none /\ n = 0) ∨ ∃ g o,a = some ⟨g,o,none⟩ /\ base <= g /\ g < w.heap.size /\ Lib.Bytes w g o s)
theorem bytes_none {s : ByteArray} (h : s.size = 0) : s = ⟨#[]⟩:=by
 apply ByteArray.ext
 apply Array.eq_empty_of_size_eq_zero
 exact h
theorem BS.conv {P : Program} {w : World} {base n c : Nat} {a : Option Addr} {s : ByteArray} (src dst e : TypeId) (hs : P.underlying src = some (.slice e)) (he : P.underlying e = some (.int .u8)) (hd : P.underlying dst = some .string) (h : BS w base a n c s) :
 (convert src dst (.slice a n c)).run P w = .ok (.string s) w:=by
 obtain ⟨rfl,h2,⟨rfl,h0⟩ | ⟨g,o,rfl,_,_,hc⟩⟩:=h
 · rw [run_convert_bytes_nil w src e hs he _ _ dst hd,bytes_none h0]
   rfl
 · exact Lib.run_convert_whole w src e dst hs he hd g o s hc c
theorem byteCells_append (s t : ByteArray) : byteCells (s ++ t) = byteCells s ++ byteCells t:=by
 unfold byteCells
 rw [<- List.map_append]
 congr 1
theorem byteCells_get (s : ByteArray) (j : Nat) (h : j < s.size) : (byteCells s)[j]? = some (.int .u8 (s[j].toNat : Int)):=by
 unfold byteCells
 rw [List.getElem?_map,Go.Proofs.byte_at s j h]
 rfl
theorem bytes_of_cells {w : World} {g o : Nat} {s : ByteArray} (h : ∀ j u,(byteCells s)[j]? = some u -> w.cell? ⟨g,o + j,none⟩ = some u) : Lib.Bytes w g o s :=
 fun i hi => h i _ (byteCells_get s i hi)
end Go.Proofs.YthkbcjnbmciolaaGreatDoor
namespace Go.Proofs.YthkbcjnbmciolaaGreatDoor
open Go.RowKit Go.PlainAid G MGet MGF IRow MNum MJoin
set_option linter.unusedVariables false
def FitD (d : Dd) : Prop:=d.lk.size <= maxLen /\ d.nm.size <= maxLen /\ d.bd.size <= maxLen
theorem fitD_d : FitD ddD:=⟨Nat.zero_le _,Nat.zero_le _,Nat.zero_le _⟩
theorem rdTx_fits {u : ByteArray} (hu : u.size <= 8000) (t : Nat) : FitD ((rdTx u).getD t ddD):=by
 unfold rdTx
 split
 · unfold ddsTo
   rcases Nat.lt_or_ge t (sN u (0,false)).1.toNat with h | h
   · rw [show ((List.range (sN u (0,false)).1.toNat).map (ddAt u (sN u (0,false)).2)).getD t ddD = ddAt u (sN u (0,false)).2 t by simp [List.getD,h]]
     exact rdDeed_fits hu
   · rw [show ((List.range (sN u (0,false)).1.toNat).map (ddAt u (sN u (0,false)).2)).getD t ddD = ddD by simp [List.getD];rw [List.getElem?_eq_none (by simp;omega)];rfl]
     exact fitD_d
 · simp only [List.getD,List.getElem?_nil,Option.getD_none]
   exact fitD_d
theorem rdPart_fits (s : ByteArray) (t : Nat) : FitD ((rdPart s).getD t ddD):=by
 unfold rdPart
 split
 · rename_i h
   exact rdTx_fits (openS_fits h) t
 · simp only [List.getD,List.getElem?_nil,Option.getD_none]
   exact fitD_d
theorem txF_fits (s : ByteArray) : ∀ (f p i t : Nat),FitD (((txF s f p).getD i []).getD t ddD)
 | 0,_,i,t => by simp only [txF,List.getD,List.getElem?_nil,Option.getD_none];exact fitD_d
 | f + 1,p,i,t => by
  unfold txF
  split
  · split
    · simp only [List.getD,List.getElem?_nil,Option.getD_none];exact fitD_d
    · cases i with
      | zero => exact rdPart_fits _ t
      | succ i => exact txF_fits s f _ i t
  · simp only [List.getD,List.getElem?_nil,Option.getD_none];exact fitD_d
theorem txRd_fits (s : ByteArray) (i t : Nat) : FitD (((txRd s).getD i []).getD t ddD):=txF_fits s _ _ i t
theorem txS_small (ds : List Dd) : (txS ds).size <= 8010:=by
 unfold txS
 split
 · rcases Nat.lt_or_ge 8000 (sealS (txTo ds ds.length)).size with h | h
   · rw [putTextS_long h];exact Nat.zero_le _
   · rw [putTextS_short h,ByteArray.size_append]
     have:=(numS_size ((sealS (txTo ds ds.length)).size : Int)).2
     omega
 · exact Nat.zero_le _
def bytesOf (ls : List (List Dd)) : ByteArray:=catS (ls.map txS)
theorem sum_small (ls : List (List Dd)) : sumL (ls.map txS) <= 8010 * ls.length:=by
 induction ls with
 | nil => simp [sumL]
 | cons l r ih =>
  have h:=txS_small l
  have e : sumL (List.map txS (l :: r)) = (txS l).size + sumL (List.map txS r):=by simp [sumL]
  rw [e,List.length_cons]
  omega
theorem map_txTake {ls : List (List Dd)} {k : Nat} (h : k < ls.length) : (ls.take (k + 1)).map txS = (ls.take k).map txS ++ [txS (ls.getD k [])]:=by
 rw [show ls.take (k + 1) = ls.take k ++ [ls[k]] from (List.take_append_getElem h).symm,List.map_append]
 rw [show ls.getD k [] = ls[k] by simp [List.getD,List.getElem?_eq_getElem h]]
 rfl
theorem joined_nil (c : Nat) (w : World) :
 Calls Tryz.prog 61 #[.slice none 0 c] w fun e w' => e = .returned (.string ⟨#[]⟩) /\ Below w.heap.size w w':=by
 obtain ⟨i0,hi,hz0,hz1,hz2⟩:=info_parts infoU8
 go_enter Tryz.func61,Tryz.ntmps61
 go_wp2_with fail
 go_loop [3,12] (fun sz i => i = .int .i64 0 /\ sz = .int .i64 0) (fun _ i => 0)
 case atStart => exact ⟨rfl,rfl⟩
 case round =>
  obtain ⟨rfl,rfl⟩:=hrel
  go_wp2_with (at_make;refine wpList_make_full _ rfl (.tmp 21) (.tmp 21) 95 rfl w.heap.size 5 i0 (.int .u8 0) 1 Tryz.underlying95 hi hz0 hz1 .i64 .i64 _ _ 0 rfl rfl rfl rfl (by rw [hz2];omega) (by unfold maxLen;omega) (Nat.le_refl _) ?_;intro w1 hown1 hgrow1)
  have hb1 : Below w.heap.size w w1:=(Below.refl _ _).grown hgrow1 (Nat.le_refl _) (fun k hk => by cases hk)
  have HG : Hid (w1.heap[w.heap.size]? = some (.cells (fill (catL []) (sumL [])) 5 (0,0))):=qH (made_fill hown1)
  have HB1:=qH hb1
  clear hown1 hgrow1 hb1
  go_loopw [7,25] (fun at_ i wr => i = .int .i64 0 /\ at_ = .int .i64 0 /\ wr = w1) (fun _ i _ => 0)
  case atStart => exact ⟨rfl,rfl,rfl⟩
  case round =>
   obtain ⟨rfl,rfl,rfl⟩:=hrel
   have hcv : (convert 95 9 (.slice (some ⟨w.heap.size,0,none⟩) 0 0)).run Tryz.prog wr = .ok (.string ⟨#[]⟩) wr:=conv_fill (P:=Tryz.prog) (w:=wr) 95 9 5 _ Tryz.underlying95 Tryz.underlying5 Tryz.underlying9 w.heap.size [] HG.out 0
   go_wp2_with fail
   go_ret
   exact ⟨rfl,HB1.out⟩
theorem bytesRead_any (va : Option Addr) (n vc B : Nat) (rs : List Rw) (ls : List (List Dd)) (w : World) (hl : rs.length = n) (hn : ls.length = n) (hm : n <= 8001) (h : SSL w B (.slice va n vc) rs (fun i => ls.getD i [])) (hf : ∀ i t,FitD ((ls.getD i []).getD t ddD)) (ht : ∀ i,(ls.getD i []).length <= 10) :
 Calls Tryz.prog 83 #[.slice va n vc] w fun e w' => e = .returned (.string (bytesOf ls)) /\ Below w.heap.size w w':=by
 have HSL:=qH h
 have HRL:=qH hl
 have HLN:=qH hn
 have HF:=qH hf
 have HT:=qH ht
 clear h hl hn hf ht
 obtain ⟨i0,hi,hz0,hz1,hz2⟩:=info_parts infoStr
 go_enter Tryz.func83,Tryz.ntmps83
 go_wp2_with fail
 go_loopw [3,8] (fun v i wr => ∃ k : Nat,k <= n /\ i = .int .i64 k /\ wr.ownsRow w.heap.size 9 stE.k v k (stE.flat ((ls.take k).map txS)) /\ Below w.heap.size w wr) (fun _ i _ => n - (intOf i).toNat)
 case atStart => exact ⟨0,Nat.zero_le _,rfl,World.ownsRow_nil _ _ _ _,Below.refl _ _⟩
 case round =>
  obtain ⟨k,hk,rfl,hown,hB⟩:=hrel
  by_cases hlt : k < n
  · have hlt2 : k < rs.length:=by rw [HRL.out];exact hlt
    have hs2:=HSL.out.below hB
    rw [<- HRL.out] at hs2
    obtain ⟨g,o,rfl,hg,t0,hdd⟩:=hs2.at hlt2
    clear hs2
    have hin : 0 <= (k : Int) /\ (k : Int) < (n : Int):=by omega
    have HTK:=qH (map_txTake (ls:=ls) (k:=k) (by rw [HLN.out];exact hlt))
    have HFK:=qH (HF.out k)
    have HTN:=qH (HT.out k)
    generalize ls.getD k [] = l at *
    generalize (rs.getD k rwD).a = ra at *
    generalize (rs.getD k rwD).n = rn at *
    generalize (rs.getD k rwD).c = rc at *
    have hrl : l.length = rn:=hdd.len
    have hrn : rn <= 1048576:=by rw [<- hrl];have:=HTN.out;omega
    have HDD:=qH hdd
    have HO:=qH hown
    have HB:=qH hB
    have HRN:=qH hrl
    clear hdd hown hB hrl hlt2
    go_wp2_with fail
    refine (implTxBytes_any ra rn rc l _ HDD.out hrn (fun t _ => HFK.out t)).mono ?_
    rintro e w5 ⟨rfl,hb⟩
    have hown5:=own_below HO.out hb
    have HO5:=qH hown5
    have HB5:=qH (HB.out.trans (hb.mono HB.out.size))
    have hsz5:=HB5.out.size
    generalize txS l = tx at *
    clear hb HO HB t0
    go_wp2_with (at_builtin;refine append_enc stE rfl (.tmp 12) (.tmp 15) 131 rfl 9 i0 (.string ByteArray.empty) 16 Tryz.underlying131 hi hz0 hz1 hz2 rfl (by decide) (by decide) w.heap.size _ _ _ rfl hown5 tx _ rfl _ rfl hsz5 (by omega) ?_;intro v' w8 hown8 hg8 _;have HO8:=qH hown8;have HB8:=qH (below_grow HB5.out HO5.out (Nat.le_refl _) hg8 hsz5);clear hown8 hg8 hown5)
    go_roundw
    case rel => exact ⟨k + 1,by omega,by go_num,by rw [HTK.out];exact HO8.out,HB8.out⟩
    case measure => simp [intOf];omega
  · obtain rfl : k = n:=by omega
    obtain ⟨ar,cr,rfl⟩:=own_shape hown
    have HO:=qH (show wr.ownsRow w.heap.size 9 stE.k (.slice ar k cr) k (stE.flat (ls.map txS)) by rw [List.take_of_length_le (by rw [HLN.out];exact Nat.le_refl _)] at hown;exact hown)
    have HB:=qH hB
    have HSM : Hid (sumL (ls.map txS) <= 1099511627776):=qH (by have:=sum_small ls;have:=HLN.out;omega)
    have HML : Hid ((ls.map txS).length = k):=qH (by rw [List.length_map,HLN.out])
    have HBO : Hid (bytesOf ls = catS (ls.map txS)):=qH rfl
    generalize ls.map txS = ps at *
    clear hown hB HSL
    cases ar with
    | none =>
     have hk0 : k = 0:=by
      rcases HO.out.2 with ⟨hv,h0⟩ | ⟨g,c,cur,hv,_⟩
      · simp only [Value.slice.injEq] at hv;exact hv.2.1
      · simp only [Value.slice.injEq] at hv;exact absurd hv.1 (by simp)
     subst hk0
     have hps : ps = []:=List.eq_nil_of_length_eq_zero HML.out
     go_wp2_with fail
     refine (joined_nil cr _).mono ?_
     rintro e w5 ⟨rfl,hb⟩
     have HB5:=qH (HB.out.trans (hb.mono HB.out.size))
     clear hb
     go_wp2_with fail
     go_ret
     exact ⟨ret_string (by rw [HBO.out,hps];rfl),HB5.out⟩
    | some ad =>
     obtain ⟨g,o,hge,hgl,hcs⟩ : ∃ g o,ad = ⟨g,o,none⟩ /\ g < wr.heap.size /\ ∀ i,i < k -> wr.cell? ⟨g,o + i,none⟩ = some (.string (ps.getD i ByteArray.empty)):=by
      rcases Nat.eq_zero_or_pos k with h0 | h0
      · rcases HO.out.2 with ⟨hv,_⟩ | ⟨g,c,cur,hv,hbg,hg,_⟩
        · simp only [Value.slice.injEq] at hv;exact absurd hv.1 (by simp)
        · simp only [Value.slice.injEq,Option.some.injEq] at hv
          exact ⟨g,0,hv.1,(HO.out.lt g (by rw [hv.1];rfl)).2,fun i hi => by omega⟩
      · obtain ⟨g,o,ha,hg,hc⟩:=(SR.own (E:=stE) (d:=ByteArray.empty) (by decide) HO.out).cells h0
        exact ⟨g,o,Option.some.inj ha,hg,fun i hi => by simpa [stE] using hc i hi 0 _ rfl⟩
     subst hge
     have HCS:=qH hcs
     have HGL:=qH hgl
     clear hcs hgl
     go_wp2_with fail
     have hj:=joined_any g o cr ps wr HGL.out (fun i hi => HCS.out i (by rw [<- HML.out];exact hi)) (by rw [HML.out];omega) HSM.out
     rw [HML.out] at hj
     refine hj.mono ?_
     rintro e w5 ⟨rfl,hb⟩
     have HB5:=qH (HB.out.trans (hb.mono HB.out.size))
     clear hb hj
     go_wp2_with fail
     go_ret
     exact ⟨ret_string HBO.out.symm,HB5.out⟩
end Go.Proofs.YthkbcjnbmciolaaGreatDoor
