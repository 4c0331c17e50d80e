/- Used by the law. -/
import Derived.ScopeJumps
import Derived.WalkMore
import Derived.Laws.BitsLemmas
import Derived.Laws.Bits64
import Derived.Test.YtbgoldeopmlbnaaGreatDoorQB04
set_option maxRecDepth 100000
set_option maxHeartbeats 16000000
namespace Go.Proofs.YtbgoldeopmlbnaaGreatDoor
open Go.RowKit MNum MJoin G
set_option linter.unusedVariables false
def putTextS (t : ByteArray) : ByteArray:=if t.size <= 8000 then numS t.size ++ t else ⟨#[]⟩
theorem putTextS_long {t : ByteArray} (h : 8000 < t.size) : putTextS t = ⟨#[]⟩:=by unfold putTextS;rw [if_neg (by omega)]
theorem putTextS_short {t : ByteArray} (h : t.size <= 8000) : putTextS t = numS t.size ++ t:=by unfold putTextS;rw [if_pos h]
theorem i64_nat {n : Nat} (h : n <= 9223372036854775807) : i64P (n : Int):=by unfold i64P;omega
theorem specPutText_any (t : ByteArray) (w : World) (ht : t.size <= maxLen) :
 Calls Tryz.prog 49 #[.string t] w fun e w' => e = .returned (.string (putTextS t)) /\ Below w.heap.size w w':=by
 unfold maxLen at ht
 by_cases h : 8000 < t.size
 · go_enter Tryz.func49,Tryz.ntmps49
   go_wp2
   go_ret
   exact ⟨ret_string (putTextS_long h).symm,Below.refl _ _⟩
 · go_enter Tryz.func49,Tryz.ntmps49
   go_wp2_with fail
   refine (specPutNum_any _ _ (i64_nat (by omega))).mono ?_
   rintro e w1 ⟨rfl,hb1⟩
   have h1:=(numS_size t.size).2
   generalize hn : numS t.size = x at *
   have HN:=qH hn;clear hn
   go_wp2_with fail
   go_ret
   exact ⟨ret_string (by rw [<- HN.out,putTextS_short (by omega)]),hb1⟩
theorem implPutText_any (t : ByteArray) (w : World) (ht : t.size <= maxLen) :
 Calls Tryz.prog 33 #[.string t] w fun e w' => e = .returned (.string (putTextS t)) /\ Below w.heap.size w w':=by
 unfold maxLen at ht
 by_cases h : 8000 < t.size
 · go_enter Tryz.func33,Tryz.ntmps33
   go_wp2_with fail
   refine (tooLong_any _ _ ht).mono ?_
   rintro e w1 ⟨rfl,rfl⟩
   go_wp2_with fail
   go_ret
   exact ⟨ret_string (putTextS_long h).symm,Below.refl _ _⟩
 · go_enter Tryz.func33,Tryz.ntmps33
   go_wp2_with fail
   refine (tooLong_any _ _ ht).mono ?_
   rintro e w1 ⟨rfl,rfl⟩
   go_wp2_with fail
   refine (implPutNum_any _ _ (i64_nat (by omega))).mono ?_
   rintro e w1 ⟨rfl,hb1⟩
   have h1:=(numS_size t.size).2
   generalize hn : numS t.size = x at *
   have HN:=qH hn;clear hn
   go_wp2_with fail
   refine (joined_two _ _ _ _ (by omega) (by omega)).mono ?_
   rintro e w2 ⟨rfl,hb2⟩
   go_wp2_with fail
   go_ret
   exact ⟨ret_string (by rw [<- HN.out,putTextS_short (by omega)]),hb1.trans (hb2.mono hb1.size)⟩
end Go.Proofs.YtbgoldeopmlbnaaGreatDoor
namespace Go.Proofs.YtbgoldeopmlbnaaGreatDoor.G
def jumps (T : Nat -> Act -> World -> Prop) (Q : Exit -> Act -> World -> Prop) : Exit -> Act -> World -> Prop
 | .goto l,a,w => T l a w
 | e,a,w => Q e a w
theorem jumps_ret (T : Nat -> Act -> World -> Prop) (Q : Exit -> Act -> World -> Prop) (a : Act) (w : World) : jumps T Q .ret a w = Q .ret a w:=rfl
section
variable {P : Program} {a : Act} {w : World} {Q : Exit -> Act -> World -> Prop}
theorem wp_scope_labels {c : Code} (J : Nat -> Act -> World -> Prop) (μ : Nat -> Act -> World -> Nat)
 (first : c.wp P (jumps J Q) a w)
 (pass : ∀ l a w,J l a w -> ∃ rest,findLabel c l = some rest /\ rest.wp P (jumps (fun l' a' w' => J l' a' w' /\ μ l' a' w' < μ l a w) Q) a w) : (Code.scope c).wp P Q a w:=by
 intro b k cs
 have key : ∀ n l a w,μ l a w = n -> J l a w -> ∃ rest,findLabel c l = some rest /\ ∃ e a' w',Q e a' w' /\ Arrives P (lone (b.at a (.code rest :: .inScope c :: k)) cs w) b k cs e a' w':=by
  intro n
  induction n using Nat.strongRecOn with
  | _ n ih =>
   intro l a w hn hJ
   obtain ⟨rest,hf,hwp⟩:=pass l a w hJ
   refine ⟨rest,hf,?_⟩
   obtain ⟨e,a₁,w₁,hq,harr⟩:=hwp b (.inScope c :: k) cs
   cases e with
   | normal => exact ⟨.normal,a₁,w₁,hq,Steps.trans harr (.one step_inScope)⟩
   | exit id => exact ⟨.exit id,a₁,w₁,hq,fun k' hk => harr k' (by simp [exitTo,hk])⟩
   | goto l' =>
    obtain ⟨hJ',hlt⟩:=hq
    obtain ⟨rest',hf',e₂,a₂,w₂,hq₂,harr₂⟩:=ih _ (by omega) l' a₁ w₁ rfl hJ'
    exact ⟨e₂,a₂,w₂,hq₂,.of_steps (harr _ (by simp [gotoIn,hf'])) harr₂⟩
   | ret => exact ⟨_,a₁,w₁,hq,harr⟩
   | panic ch => exact ⟨_,a₁,w₁,hq,harr⟩
   | outgrown => exact ⟨_,a₁,w₁,hq,harr⟩
 obtain ⟨e,a₁,w₁,hq,harr⟩:=first b (.inScope c :: k) cs
 cases e with
 | normal => exact ⟨.normal,a₁,w₁,hq,.head step_scope (Steps.trans harr (.one step_inScope))⟩
 | exit id => exact ⟨.exit id,a₁,w₁,hq,fun k' hk => .head step_scope (harr k' (by simp [exitTo,hk]))⟩
 | goto l' =>
  obtain ⟨rest',hf',e₂,a₂,w₂,hq₂,harr₂⟩:=key _ l' a₁ w₁ rfl hq
  exact ⟨e₂,a₂,w₂,hq₂,.of_steps (.head step_scope (harr _ (by simp [gotoIn,hf']))) harr₂⟩
 | ret => exact ⟨_,a₁,w₁,hq,.of_steps (.one step_scope) harr⟩
 | panic ch => exact ⟨_,a₁,w₁,hq,.of_steps (.one step_scope) harr⟩
 | outgrown => exact ⟨_,a₁,w₁,hq,.of_steps (.one step_scope) harr⟩
end
end Go.Proofs.YtbgoldeopmlbnaaGreatDoor.G
namespace Go.Proofs.YtbgoldeopmlbnaaGreatDoor.MGet
open Go.PlainAid
def unf (u : Int) : Int:=if u % 2 = 1 then -(u / 2) - 1 else u / 2
def rdS (s : ByteArray) (a : Nat) : Nat -> Nat -> Int -> Int × Int × Int
 | 0,_,_ => (0,0,3)
 | f + 1,k,x =>
  if s.size <= a + k then (0,0,4)
  else if k = 9 /\ 1 < bt s (a + k) then (0,0,3)
  else if bt s (a + k) < 128 then
   (if bt s (a + k) = 0 /\ 0 < k then (0,0,3) else (unf (x + bt s (a + k) % 128 * 2 ^ (7 * k)),(a : Int) + (k : Int) + 1,0))
  else rdS s a f (k + 1) (x + bt s (a + k) % 128 * 2 ^ (7 * k))
theorem rd_short {s : ByteArray} {a f k : Nat} {x : Int} (h : s.size <= a + k) : rdS s a (f + 1) k x = (0,0,4):=by
 unfold rdS;rw [if_pos h]
theorem rd_ten {s : ByteArray} {a f k : Nat} {x : Int} (h : ¬ s.size <= a + k) (h9 : k = 9) (h1 : 1 < bt s (a + k)) : rdS s a (f + 1) k x = (0,0,3):=by
 unfold rdS;rw [if_neg h,if_pos ⟨h9,h1⟩]
theorem rd_nil {s : ByteArray} {a f k : Nat} {x : Int} (h : ¬ s.size <= a + k) (h0 : bt s (a + k) = 0) (hk : 0 < k) : rdS s a (f + 1) k x = (0,0,3):=by
 unfold rdS;rw [if_neg h,if_neg (by omega),if_pos (by omega),if_pos ⟨h0,hk⟩]
theorem rd_last {s : ByteArray} {a f k : Nat} {x : Int} (h : ¬ s.size <= a + k) (h9 : ¬ (k = 9 /\ 1 < bt s (a + k))) (hc : bt s (a + k) < 128) (h0 : ¬ (bt s (a + k) = 0 /\ 0 < k)) :
 rdS s a (f + 1) k x = (unf (x + bt s (a + k) % 128 * 2 ^ (7 * k)),(a : Int) + (k : Int) + 1,0):=by
 conv => lhs;unfold rdS
 rw [if_neg h,if_neg h9,if_pos hc,if_neg h0]
theorem rd_more {s : ByteArray} {a f k : Nat} {x : Int} (h : ¬ s.size <= a + k) (h9 : k ≠ 9) (hc : ¬ bt s (a + k) < 128) :
 rdS s a (f + 1) k x = rdS s a f (k + 1) (x + bt s (a + k) % 128 * 2 ^ (7 * k)):=by
 conv => lhs;unfold rdS
 rw [if_neg h,if_neg (by omega),if_neg hc]
theorem unf_odd {u : Int} (h : u % 2 = 1) : unf u = -(u / 2) - 1:=by unfold unf;rw [if_pos h]
theorem unf_even {u : Int} (h : ¬ u % 2 = 1) : unf u = u / 2:=by unfold unf;rw [if_neg h]
def getS (s : ByteArray) (a : Int) : Int × Int × Int :=
 if 8000 < s.size then (0,0,2) else if a < 0 then (0,0,1) else rdS s a.toNat 10 0 0
theorem getS_size {s : ByteArray} {a : Int} (h : 8000 < s.size) : getS s a = (0,0,2):=by unfold getS;rw [if_pos h]
theorem getS_form {s : ByteArray} {a : Int} (h : ¬ 8000 < s.size) (h' : a < 0) : getS s a = (0,0,1):=by unfold getS;rw [if_neg h,if_pos h']
theorem getS_read {s : ByteArray} {a : Nat} (h : ¬ 8000 < s.size) : getS s (a : Int) = rdS s a 10 0 0:=by unfold getS;rw [if_neg h,if_neg (by omega)];rfl
theorem add_fits {x c : Int} {k : Nat} (hx0 : 0 <= x) (hx : x < 2 ^ (7 * k)) (hk : k <= 9) (h0 : 0 <= c) (h1 : c <= 255) (h9 : k = 9 -> c <= 1) :
 0 <= c % 128 * 2 ^ (7 * k) /\ c % 128 * 2 ^ (7 * k) <= 18446744073709551615 /\ x + c % 128 * 2 ^ (7 * k) <= 18446744073709551615:=by
 by_cases hk9 : k = 9
 · subst hk9
   have:=h9 rfl
   simp only [Nat.reduceMul,Int.reducePow] at *
   omega
 · have hk' : k = 0 ∨ k = 1 ∨ k = 2 ∨ k = 3 ∨ k = 4 ∨ k = 5 ∨ k = 6 ∨ k = 7 ∨ k = 8:=by omega
   clear h9
   rcases hk' with rfl | rfl | rfl | rfl | rfl | rfl | rfl | rfl | rfl <;> simp only [Nat.mul_zero,Nat.reduceMul,Int.reducePow] at * <;> omega
theorem add_more {x c : Int} {k : Nat} (hx0 : 0 <= x) (hx : x < 2 ^ (7 * k)) (hk : k <= 8) (_ : 0 <= c) (_ : c <= 255) :
 0 <= x + c % 128 * 2 ^ (7 * k) /\ x + c % 128 * 2 ^ (7 * k) < 2 ^ (7 * (k + 1)):=by
 have hk' : k = 0 ∨ k = 1 ∨ k = 2 ∨ k = 3 ∨ k = 4 ∨ k = 5 ∨ k = 6 ∨ k = 7 ∨ k = 8:=by omega
 rcases hk' with rfl | rfl | rfl | rfl | rfl | rfl | rfl | rfl | rfl <;> simp only [Nat.mul_zero,Nat.reduceMul,Int.reducePow,Nat.reduceAdd] at * <;> omega
theorem wraps_u64' (n : Int) (h₀ : 0 <= n) (h₁ : n < 2 ^ 64) : IntKind.u64.wrap n = n:=by rw [IntKind.wrap_u64];omega
theorem or_fits {x c : Int} {k : Nat} (hx0 : 0 <= x) (hx : x < 2 ^ (7 * k)) (hk : k <= 9) (h0 : 0 <= c) (h1 : c <= 255) (h9 : k = 9 -> c <= 1) :
 bits .or .u64 x (c % 128 * 2 ^ (7 * k)) = x + c % 128 * 2 ^ (7 * k):=by
 obtain ⟨_,hp1,hp2⟩:=add_fits hx0 hx hk h0 h1 h9
 obtain ⟨a,rfl⟩:=Int.eq_ofNat_of_zero_le hx0
 obtain ⟨d,hd⟩:=Int.eq_ofNat_of_zero_le (show 0 <= c % 128 by omega)
 rw [hd] at hp1 hp2 ⊢
 have ha : a < 2 ^ (7 * k):=by exact_mod_cast hx
 have e : ((d : Int) * 2 ^ (7 * k)) = ((2 ^ (7 * k) * d : Nat) : Int):=by push_cast;rw [Int.mul_comm]
 rw [e] at hp1 hp2 ⊢
 have hb:=(bits_nat .u64 64 (by decide) wraps_u64' a (2 ^ (7 * k) * d) (by omega) (by omega)).2
 rw [hb,Nat.or_comm,<- Nat.two_pow_add_eq_or_of_lt ha]
 push_cast
 omega
theorem rd_place (s : ByteArray) (a : Nat) : ∀ (f k : Nat) (x : Int),(rdS s a f k x).2.2 = 0 -> (a : Int) < (rdS s a f k x).2.1 /\ (rdS s a f k x).2.1 <= (s.size : Int)
 | 0,_,_ => by simp [rdS]
 | f + 1,k,x => by
  unfold rdS
  split
  · simp
  · split
    · simp
    · split
      · split
        · simp
        · intro _;simp only [];omega
      · exact rd_place s a f (k + 1) _
theorem rd_zero (s : ByteArray) (a : Nat) : ∀ (f k : Nat) (x : Int),(rdS s a f k x).2.2 ≠ 0 -> rdS s a f k x = (0,0,(rdS s a f k x).2.2)
 | 0,_,_ => by simp [rdS]
 | f + 1,k,x => by
  unfold rdS
  split
  · simp
  · split
    · simp
    · split
      · split
        · simp
        · simp
      · exact rd_zero s a f (k + 1) _
def txtS (s : ByteArray) (a : Nat) : ByteArray × Int × Int :=
 if (rdS s a 10 0 0).2.2 ≠ 0 then (⟨#[]⟩,0,(rdS s a 10 0 0).2.2)
 else if (rdS s a 10 0 0).1 < 0 ∨ 8000 < (rdS s a 10 0 0).1 then (⟨#[]⟩,0,3)
 else if (s.size : Int) < (rdS s a 10 0 0).2.1 + (rdS s a 10 0 0).1 then (⟨#[]⟩,0,4)
 else (s.extract (rdS s a 10 0 0).2.1.toNat ((rdS s a 10 0 0).2.1.toNat + (rdS s a 10 0 0).1.toNat),(rdS s a 10 0 0).2.1 + (rdS s a 10 0 0).1,0)
theorem txt_err {s : ByteArray} {a : Nat} {n p c : Int} (h : rdS s a 10 0 0 = (n,p,c)) (hc : c ≠ 0) : txtS s a = (⟨#[]⟩,0,c):=by unfold txtS;rw [h];rw [if_pos hc]
theorem txt_form {s : ByteArray} {a : Nat} {n p : Int} (h : rdS s a 10 0 0 = (n,p,0)) (hn : n < 0 ∨ 8000 < n) : txtS s a = (⟨#[]⟩,0,3):=by unfold txtS;rw [h];rw [if_neg (by simp),if_pos hn]
theorem txt_short {s : ByteArray} {a : Nat} {n p : Int} (h : rdS s a 10 0 0 = (n,p,0)) (hn : ¬ (n < 0 ∨ 8000 < n)) (hs : (s.size : Int) < p + n) : txtS s a = (⟨#[]⟩,0,4):=by unfold txtS;rw [h];rw [if_neg (by simp),if_neg hn,if_pos hs]
theorem txt_ok {s : ByteArray} {a p n : Nat} (h : rdS s a 10 0 0 = ((n : Int),(p : Int),0)) (hn : n <= 8000) (hs : p + n <= s.size) : txtS s a = (s.extract p (p + n),(p : Int) + (n : Int),0):=by
 unfold txtS;rw [h];rw [if_neg (by simp),if_neg (by simp;omega),if_neg (by simp;omega)];simp
def getT (s : ByteArray) (a : Int) : ByteArray × Int × Int :=
 if 8000 < s.size then (⟨#[]⟩,0,2) else if a < 0 then (⟨#[]⟩,0,1) else txtS s a.toNat
theorem getT_size {s : ByteArray} {a : Int} (h : 8000 < s.size) : getT s a = (⟨#[]⟩,0,2):=by unfold getT;rw [if_pos h]
theorem getT_form {s : ByteArray} {a : Int} (h : ¬ 8000 < s.size) (h' : a < 0) : getT s a = (⟨#[]⟩,0,1):=by unfold getT;rw [if_neg h,if_pos h']
theorem getT_read {s : ByteArray} {a : Nat} (h : ¬ 8000 < s.size) : getT s (a : Int) = txtS s a:=by unfold getT;rw [if_neg h,if_neg (by omega)];rfl
end Go.Proofs.YtbgoldeopmlbnaaGreatDoor.MGet
