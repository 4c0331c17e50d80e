/- Used by the law. -/
import Derived.BigRegion
import Derived.ShutString
import Derived.Test.YthkbcjnbmciolaaGreatDoorQV04
import Derived.Test.YthkbcjnbmciolaaGreatDoorQV05
set_option maxRecDepth 100000
set_option maxHeartbeats 16000000
namespace Go.Proofs.YthkbcjnbmciolaaGreatDoor
open Go.RowKit Go.PlainAid G MGF IRow MNum MJoin
set_option linter.unusedVariables false
def numsB (g n m : Int) : Bool:=decide (1 <= g /\ g <= 999) && manyB n m
def envB (g n m x : Int) (t : ByteArray) : Bool:=numsB g n m && (decide (1 <= x /\ x <= m) && secB t)
theorem envB_bounds {g n m x : Int} {t : ByteArray} (h : envB g n m x t = true) : (1 <= g /\ g <= 999) /\ (1 <= n /\ n <= 10) /\ (n <= m /\ m <= 20) /\ (1 <= x /\ x <= m) /\ (1 <= t.size /\ t.size <= 16):=by
 unfold envB numsB manyB needB secB at h
 simp only [Bool.and_eq_true,decide_eq_true_eq] at h
 exact ⟨h.1.1,h.1.2.1,h.1.2.2,h.2.1,h.2.2⟩
theorem implEnvRight_any (g n m x : Int) (t : ByteArray) (w : World) (ht : t.size <= maxLen) :
 Calls Tryz.prog 102 #[.agg #[.int .i64 g,.int .i64 n,.int .i64 m,.int .i64 x,.string t]] w fun e w' => e = .returned (.bool (envB g n m x t)) /\ Below w.heap.size w w':=by
 have HT:=qH ht
 have HB : Hid (Below w.heap.size w (w.alloc (.cells #[.int .i64 g,.int .i64 n,.int .i64 m,.int .i64 x,.string t] 101))):=qH ((Below.refl _ _).alloc (Nat.le_refl _) _)
 clear ht
 by_cases h1 : 1 <= g
 · by_cases h2 : g <= 999
   · cases hm : manyB n m
     · skip
       have HF : Hid (false = envB g n m x t):=qH (by unfold envB numsB;rw [hm,Bool.and_false,Bool.false_and])
       go_enter Tryz.func102,Tryz.ntmps102
       go_wp2_with (first | (go_at_call 87;refine (manyRight_any n m _).mono ?_;rintro e w1 ⟨rfl,rfl⟩;rw [hm]) | (go_at_call 59;refine (secretRight_any t _ HT.out).mono ?_;rintro e w1 ⟨rfl,rfl⟩;rw [hs]))
       go_ret
       exact ⟨ret_bool HF.out,HB.out⟩
     · by_cases h3 : 1 <= x
       · by_cases h4 : x <= m
         · cases hs : secB t
           · skip
             have HF : Hid (false = envB g n m x t):=qH (by unfold envB numsB;rw [hs,Bool.and_false,Bool.and_false])
             go_enter Tryz.func102,Tryz.ntmps102
             go_wp2_with (first | (go_at_call 87;refine (manyRight_any n m _).mono ?_;rintro e w1 ⟨rfl,rfl⟩;rw [hm]) | (go_at_call 59;refine (secretRight_any t _ HT.out).mono ?_;rintro e w1 ⟨rfl,rfl⟩;rw [hs]))
             go_ret
             exact ⟨ret_bool HF.out,HB.out⟩
           · skip
             have HF : Hid (true = envB g n m x t):=qH (by unfold envB numsB;rw [hs,hm,decide_eq_true ⟨h1,h2⟩,decide_eq_true ⟨h3,h4⟩];rfl)
             go_enter Tryz.func102,Tryz.ntmps102
             go_wp2_with (first | (go_at_call 87;refine (manyRight_any n m _).mono ?_;rintro e w1 ⟨rfl,rfl⟩;rw [hm]) | (go_at_call 59;refine (secretRight_any t _ HT.out).mono ?_;rintro e w1 ⟨rfl,rfl⟩;rw [hs]))
             go_ret
             exact ⟨ret_bool HF.out,HB.out⟩
         · skip
           have HF : Hid (false = envB g n m x t):=qH (by unfold envB numsB;rw [decide_eq_false (p:=1 <= x /\ x <= m) (by omega),Bool.false_and,Bool.and_false])
           go_enter Tryz.func102,Tryz.ntmps102
           go_wp2_with (first | (go_at_call 87;refine (manyRight_any n m _).mono ?_;rintro e w1 ⟨rfl,rfl⟩;rw [hm]) | (go_at_call 59;refine (secretRight_any t _ HT.out).mono ?_;rintro e w1 ⟨rfl,rfl⟩;rw [hs]))
           go_ret
           exact ⟨ret_bool HF.out,HB.out⟩
       · skip
         have HF : Hid (false = envB g n m x t):=qH (by unfold envB numsB;rw [decide_eq_false (p:=1 <= x /\ x <= m) (by omega),Bool.false_and,Bool.and_false])
         go_enter Tryz.func102,Tryz.ntmps102
         go_wp2_with (first | (go_at_call 87;refine (manyRight_any n m _).mono ?_;rintro e w1 ⟨rfl,rfl⟩;rw [hm]) | (go_at_call 59;refine (secretRight_any t _ HT.out).mono ?_;rintro e w1 ⟨rfl,rfl⟩;rw [hs]))
         go_ret
         exact ⟨ret_bool HF.out,HB.out⟩
   · skip
     have HF : Hid (false = envB g n m x t):=qH (by unfold envB numsB;rw [decide_eq_false (p:=1 <= g /\ g <= 999) (by omega),Bool.false_and,Bool.false_and])
     go_enter Tryz.func102,Tryz.ntmps102
     go_wp2_with (first | (go_at_call 87;refine (manyRight_any n m _).mono ?_;rintro e w1 ⟨rfl,rfl⟩;rw [hm]) | (go_at_call 59;refine (secretRight_any t _ HT.out).mono ?_;rintro e w1 ⟨rfl,rfl⟩;rw [hs]))
     go_ret
     exact ⟨ret_bool HF.out,HB.out⟩
 · skip
   have HF : Hid (false = envB g n m x t):=qH (by unfold envB numsB;rw [decide_eq_false (p:=1 <= g /\ g <= 999) (by omega),Bool.false_and,Bool.false_and])
   go_enter Tryz.func102,Tryz.ntmps102
   go_wp2_with (first | (go_at_call 87;refine (manyRight_any n m _).mono ?_;rintro e w1 ⟨rfl,rfl⟩;rw [hm]) | (go_at_call 59;refine (secretRight_any t _ HT.out).mono ?_;rintro e w1 ⟨rfl,rfl⟩;rw [hs]))
   go_ret
   exact ⟨ret_bool HF.out,HB.out⟩
theorem l05Nums_any (g n m : Int) (w : World) :
 Calls Tryz.prog 73 #[.int .i64 g,.int .i64 n,.int .i64 m] w fun e w' => e = .returned (.bool (numsB g n m)) /\ w = w':=by
 cases hg : decide (1 <= g /\ g <= 999)
 · skip
   have HF : Hid (false = numsB g n m):=qH (by unfold numsB manyB needB;rw [hg,Bool.false_and])
   go_enter Tryz.func73,Tryz.ntmps73
   go_wp2_with (go_at_call 42;refine (l02Is_any _ _ _ _).mono ?_;rintro e w1 ⟨rfl,rfl⟩;first | rw [hg] | rw [hn] | rw [hm])
   go_ret
   exact ⟨ret_bool HF.out,rfl⟩
 · cases hn : decide (1 <= n /\ n <= 10)
   · skip
     have HF : Hid (false = numsB g n m):=qH (by unfold numsB manyB needB;rw [hn,Bool.false_and,Bool.and_false])
     go_enter Tryz.func73,Tryz.ntmps73
     go_wp2_with (go_at_call 42;refine (l02Is_any _ _ _ _).mono ?_;rintro e w1 ⟨rfl,rfl⟩;first | rw [hg] | rw [hn] | rw [hm])
     go_ret
     exact ⟨ret_bool HF.out,rfl⟩
   · cases hm : decide (n <= m /\ m <= 20)
     · skip
       have HF : Hid (false = numsB g n m):=qH (by unfold numsB manyB needB;rw [hm,Bool.and_false,Bool.and_false])
       go_enter Tryz.func73,Tryz.ntmps73
       go_wp2_with (go_at_call 42;refine (l02Is_any _ _ _ _).mono ?_;rintro e w1 ⟨rfl,rfl⟩;first | rw [hg] | rw [hn] | rw [hm])
       go_ret
       exact ⟨ret_bool HF.out,rfl⟩
     · skip
       have HF : Hid (true = numsB g n m):=qH (by unfold numsB manyB needB;rw [hg,hn,hm];rfl)
       go_enter Tryz.func73,Tryz.ntmps73
       go_wp2_with (go_at_call 42;refine (l02Is_any _ _ _ _).mono ?_;rintro e w1 ⟨rfl,rfl⟩;first | rw [hg] | rw [hn] | rw [hm])
       go_ret
       exact ⟨ret_bool HF.out,rfl⟩
theorem specEnvRight_any (g n m x : Int) (t : ByteArray) (w : World) (ht : t.size <= maxLen) :
 Calls Tryz.prog 71 #[.agg #[.int .i64 g,.int .i64 n,.int .i64 m,.int .i64 x,.string t]] w fun e w' => e = .returned (.bool (envB g n m x t)) /\ Below w.heap.size w w':=by
 have HT:=qH ht
 have HB : Hid (Below w.heap.size w (w.alloc (.cells #[.int .i64 g,.int .i64 n,.int .i64 m,.int .i64 x,.string t] 101))):=qH ((Below.refl _ _).alloc (Nat.le_refl _) _)
 clear ht
 cases hn : numsB g n m
 · skip
   have HF : Hid (false = envB g n m x t):=qH (by unfold envB ;rw [hn,Bool.false_and])
   go_enter Tryz.func71,Tryz.ntmps71
   go_wp2_with (first | (go_at_call 73;refine (l05Nums_any g n m _).mono ?_;rintro e w1 ⟨rfl,rfl⟩;rw [hn]) | (go_at_call 42;refine (l02Is_any x 1 m _).mono ?_;rintro e w1 ⟨rfl,rfl⟩;rw [hx]) | (go_at_call 48;refine (l04Secret_any t _ HT.out).mono ?_;rintro e w1 ⟨rfl,rfl⟩;rw [hs]))
   go_ret
   exact ⟨ret_bool HF.out,HB.out⟩
 · cases hx : decide (1 <= x /\ x <= m)
   · skip
     have HF : Hid (false = envB g n m x t):=qH (by unfold envB ;rw [hx,Bool.false_and,Bool.and_false])
     go_enter Tryz.func71,Tryz.ntmps71
     go_wp2_with (first | (go_at_call 73;refine (l05Nums_any g n m _).mono ?_;rintro e w1 ⟨rfl,rfl⟩;rw [hn]) | (go_at_call 42;refine (l02Is_any x 1 m _).mono ?_;rintro e w1 ⟨rfl,rfl⟩;rw [hx]) | (go_at_call 48;refine (l04Secret_any t _ HT.out).mono ?_;rintro e w1 ⟨rfl,rfl⟩;rw [hs]))
     go_ret
     exact ⟨ret_bool HF.out,HB.out⟩
   · cases hs : secB t
     · skip
       have HF : Hid (false = envB g n m x t):=qH (by unfold envB ;rw [hs,Bool.and_false,Bool.and_false])
       go_enter Tryz.func71,Tryz.ntmps71
       go_wp2_with (first | (go_at_call 73;refine (l05Nums_any g n m _).mono ?_;rintro e w1 ⟨rfl,rfl⟩;rw [hn]) | (go_at_call 42;refine (l02Is_any x 1 m _).mono ?_;rintro e w1 ⟨rfl,rfl⟩;rw [hx]) | (go_at_call 48;refine (l04Secret_any t _ HT.out).mono ?_;rintro e w1 ⟨rfl,rfl⟩;rw [hs]))
       go_ret
       exact ⟨ret_bool HF.out,HB.out⟩
     · skip
       have HF : Hid (true = envB g n m x t):=qH (by unfold envB ;rw [hn,hx,hs];rfl)
       go_enter Tryz.func71,Tryz.ntmps71
       go_wp2_with (first | (go_at_call 73;refine (l05Nums_any g n m _).mono ?_;rintro e w1 ⟨rfl,rfl⟩;rw [hn]) | (go_at_call 42;refine (l02Is_any x 1 m _).mono ?_;rintro e w1 ⟨rfl,rfl⟩;rw [hx]) | (go_at_call 48;refine (l04Secret_any t _ HT.out).mono ?_;rintro e w1 ⟨rfl,rfl⟩;rw [hs]))
       go_ret
       exact ⟨ret_bool HF.out,HB.out⟩
structure Ev where
 g : Int
 n : Int
 m : Int
 x : Int
 t : ByteArray
def evD : Ev:=⟨0,0,0,0,ByteArray.empty⟩
def evE : Enc Ev:=⟨5,fun e => [.int .i64 e.g,.int .i64 e.n,.int .i64 e.m,.int .i64 e.x,.string e.t],fun _ => rfl,by intro x v hv;simp at hv;rcases hv with rfl | rfl | rfl | rfl | rfl <;> rfl⟩
abbrev ER (w : World) (a : Option Addr) (n cap : Nat) (l : List Ev) : Prop:=SR evE evD w a n cap l
theorem ER.at {w : World} {a : Option Addr} {n cap : Nat} {l : List Ev} (h : ER w a n cap l) {i : Nat} (hi : i < n) : ∃ g o,a = some ⟨g,o,none⟩ /\ g < w.heap.size /\ w.cell? ⟨g,o + i * 5,none⟩ = some (.int .i64 (l.getD i evD).g) /\ w.cell? ⟨g,o + i * 5 + 1,none⟩ = some (.int .i64 (l.getD i evD).n) /\ w.cell? ⟨g,o + i * 5 + 2,none⟩ = some (.int .i64 (l.getD i evD).m) /\ w.cell? ⟨g,o + i * 5 + 3,none⟩ = some (.int .i64 (l.getD i evD).x) /\ w.cell? ⟨g,o + i * 5 + 4,none⟩ = some (.string (l.getD i evD).t):=by
 obtain ⟨g,o,ha,hg,hc⟩:=h.cells (by omega)
 exact ⟨g,o,ha,hg,hc i hi 0 _ rfl,hc i hi 1 _ rfl,hc i hi 2 _ rfl,hc i hi 3 _ rfl,hc i hi 4 _ rfl⟩
theorem ER.own {w : World} {base n cap : Nat} {a : Option Addr} {e : TypeId} {l : List Ev} (h : w.ownsRow base e evE.k (.slice a n cap) n (evE.flat l)) : ER w a n cap l:=SR.own (by decide) h
theorem envs_len {w : World} {base n cap : Nat} {a : Option Addr} {e : TypeId} {l : List Ev} (h : w.ownsRow base e evE.k (.slice a n cap) n (evE.flat l)) : l.length = n:=by
 have:=h.1;rw [evE.flat_length] at this;exact Nat.eq_of_mul_eq_mul_right (show 0 < evE.k by decide) this
theorem infoEnv : (Tryz.prog.info? 101).map (fun i => (i.zero,i.size,i.bytes)) = some (some (.agg #[.int .i64 0,.int .i64 0,.int .i64 0,.int .i64 0,.string ByteArray.empty]),5,48):=by kernel_rfl
end Go.Proofs.YthkbcjnbmciolaaGreatDoor
namespace Go.Proofs.YthkbcjnbmciolaaGreatDoor
open Go.ChangeShapes Go.WideShapes Go.RowKit G
set_option linter.unusedVariables false
theorem toEnv_any (g n m x : Int) (t : ByteArray) (w : World) :
 Calls Tryz.prog 53 #[.agg #[.int .i64 g,.int .i64 n,.int .i64 m,.int .i64 x,.string t]] w fun e w' => e = .returned (.agg #[.int .i64 g,.int .i64 n,.int .i64 m,.int .i64 x,.string t]) /\ Below w.heap.size w w':=by
 go_enter Tryz.func53,Tryz.ntmps53
 go_wp2_with fail
 exact bodyPost_ret (v:=.agg #[.int .i64 g,.int .i64 n,.int .i64 m,.int .i64 x,.string t]) (by simp [results,Tryz.results53,go_sem]) rfl ⟨rfl,by repeat' (first | exact Below.refl _ _ | refine Below.alloc ?_ (by first | exact Nat.le_refl _ | (simp;done) | (simp;omega)) _ | refine Below.setCell ?_ (by first | exact Nat.le_refl _ | (simp;done) | (simp;omega)) _)⟩
theorem eqEnv_same (g n m x : Int) (t : ByteArray) (w : World) :
 Calls Tryz.prog 66 #[.agg #[.int .i64 g,.int .i64 n,.int .i64 m,.int .i64 x,.string t],.agg #[.int .i64 g,.int .i64 n,.int .i64 m,.int .i64 x,.string t]] w fun e w' => e = .returned (.bool true) /\ Below w.heap.size w w':=by
 go_enter Tryz.func66,Tryz.ntmps66
 go_wp2_with fail
 go_ret
 exact ⟨rfl,((Below.refl _ _).alloc (Nat.le_refl _) _).alloc (by simp) _⟩
end Go.Proofs.YthkbcjnbmciolaaGreatDoor
