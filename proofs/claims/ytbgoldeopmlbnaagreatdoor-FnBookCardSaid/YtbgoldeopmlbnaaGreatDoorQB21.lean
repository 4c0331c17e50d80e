/- Used by the law. -/
import Derived.Lib.Strings
import Derived.Test.YtbgoldeopmlbnaaGreatDoorQB20
set_option maxRecDepth 100000
set_option maxHeartbeats 16000000
namespace Go.Proofs.YtbgoldeopmlbnaaGreatDoor.MGet
open Go.PlainAid MNum
theorem enc_ok {n : Int} (h : i64P n) : ∀ z ∈ encN (foldI n),0 <= z /\ z <= 255 :=
 enc_bytes 9 (foldI n) (foldI_range h).1 (cap_all (foldI_range h).2)
theorem numS_len (n : Int) : (numS n).size = (encN (foldI n)).length:=by unfold numS;rw [strOfNums_size]
theorem get_mid {n : Int} (h : i64P n) (x y : ByteArray) : rdS (x ++ numS n ++ y) x.size 10 0 0 = (n,(x.size : Int) + ((numS n).size : Int),0):=by
 have hh : HoldsL (x ++ numS n ++ y) x.size (encN (foldI n)):=holds_mid (enc_ok h)
 rw [read_num h hh,numS_len]
theorem size_i64 {u : ByteArray} (h : u.size <= 8000) : i64P (u.size : Int):=by unfold i64P;omega
theorem cut_none (t u : ByteArray) (h : u.size = 0) : t ++ u = t:=by
 apply ByteArray.ext
 apply Array.toList_inj.1
 have e : (t ++ u).data.toList = t.data.toList ++ u.data.toList:=by simp
 have e1 : u.data.toList = []:=List.eq_nil_of_length_eq_zero (by simpa using h)
 rw [e,e1,List.append_nil]
theorem nil_append (t : ByteArray) : (⟨#[]⟩ : ByteArray) ++ t = t:=by
 apply ByteArray.ext
 apply Array.toList_inj.1
 have e : ((⟨#[]⟩ : ByteArray) ++ t).data.toList = ([] : List UInt8) ++ t.data.toList:=by simp
 rw [e,List.nil_append]
end Go.Proofs.YtbgoldeopmlbnaaGreatDoor.MGet
namespace Go.Proofs.YtbgoldeopmlbnaaGreatDoor.MGet
open Go.PlainAid MNum
theorem HoldsL.cons {s : ByteArray} {a : Nat} {x : Int} {l : List Int} (h0 : a < s.size) (h1 : bt s a = x) (h : HoldsL s (a + 1) l) : HoldsL s a (x :: l):=by
 intro i hi
 cases i with
 | zero => exact ⟨by omega,by simpa using h1⟩
 | succ i =>
  have:=h i (by simpa using hi)
  rw [show a + 1 + i = a + (i + 1) by omega] at this
  simpa using this
theorem pow_le8 : ∀ k : Nat,k <= 8 -> (2 : Int) ^ (7 * k) <= 72057594037927936
 | 0,_ => by decide
 | 1,_ => by decide
 | 2,_ => by decide
 | 3,_ => by decide
 | 4,_ => by decide
 | 5,_ => by decide
 | 6,_ => by decide
 | 7,_ => by decide
 | 8,_ => by decide
 | k + 9,h => absurd h (by omega)
theorem pow_9 : (2 : Int) ^ (7 * 9) = 9223372036854775808:=by decide
theorem cap_pos : ∀ f : Nat,128 <= capN f
 | 0 => by simp [capN]
 | f + 1 => by have:=cap_pos f;simp only [capN];omega
theorem encL_one {f : Nat} {v : Int} (h : v < 128) : encL f v = [v]:=encL_small h
theorem back_enc {s : ByteArray} {a : Nat} : ∀ (f k : Nat) (x n p : Int),k + f = 9 -> 0 <= x -> x < 2 ^ (7 * k) -> rdS s a (f + 1) k x = (n,p,0) →
 ∃ v : Int,0 <= v /\ v < capN f /\ (0 < k -> 1 <= v) /\ x + v * 2 ^ (7 * k) < 18446744073709551616 /\ HoldsL s (a + k) (encL f v) /\ n = unf (x + v * 2 ^ (7 * k)) /\ p = (a : Int) + (k : Int) + ((encL f v).length : Int):=by
 intro f
 induction f with
 | zero =>
  intro k x n p hk hx0 hx1 h
  by_cases h1 : s.size <= a + k
  · rw [rd_short h1] at h;simp at h
  by_cases h9 : k = 9 /\ 1 < bt s (a + k)
  · rw [rd_ten h1 h9.1 h9.2] at h;simp at h
  have hb:=bt_nonneg s (a + k)
  obtain rfl : k = 9:=by omega
  have hb1 : bt s (a + 9) <= 1:=by omega
  by_cases hz : bt s (a + 9) = 0 /\ 0 < 9
  · rw [rd_nil h1 hz.1 hz.2] at h;simp at h
  rw [rd_last h1 h9 (by omega) hz] at h
  simp only [Prod.mk.injEq] at h
  obtain ⟨hn,hp,_⟩:=h
  have hm : bt s (a + 9) % 128 = bt s (a + 9):=by omega
  rw [hm] at hn
  refine ⟨bt s (a + 9),hb,by simp [capN];omega,fun _ => by omega,?_,?_,hn.symm,?_⟩
  · rw [pow_9] at hx1 ⊢;omega
  · exact HoldsL.cons (by omega) rfl (fun i hi => absurd hi (by simp))
  · simp [encL];omega
 | succ f ih =>
  intro k x n p hk hx0 hx1 h
  by_cases h1 : s.size <= a + k
  · rw [rd_short h1] at h;simp at h
  have h9 : ¬ (k = 9 /\ 1 < bt s (a + k)):=by omega
  have hb:=bt_nonneg s (a + k)
  have hb2:=bt_le s (a + k)
  have hP:=pow_le8 k (by omega)
  have hP0 : (0 : Int) <= 2 ^ (7 * k):=Int.le_of_lt (Int.pow_pos (by decide))
  by_cases hc : bt s (a + k) < 128
  · by_cases hz : bt s (a + k) = 0 /\ 0 < k
    · rw [rd_nil h1 hz.1 hz.2] at h;simp at h
    rw [rd_last h1 h9 hc hz] at h
    simp only [Prod.mk.injEq] at h
    obtain ⟨hn,hp,_⟩:=h
    have hm : bt s (a + k) % 128 = bt s (a + k):=by omega
    rw [hm] at hn
    have hcp:=cap_pos (f + 1)
    have hmul : bt s (a + k) * 2 ^ (7 * k) <= 127 * 2 ^ (7 * k):=Int.mul_le_mul_of_nonneg_right (by omega) hP0
    refine ⟨bt s (a + k),hb,by omega,fun h0 => by omega,by omega,?_,hn.symm,?_⟩
    · rw [encL_one hc]
      exact HoldsL.cons (by omega) rfl (fun i hi => absurd hi (by simp))
    · rw [encL_one hc];simp;omega
  · rw [rd_more h1 (by omega) hc] at h
    have hmul : bt s (a + k) % 128 * 2 ^ (7 * k) <= 127 * 2 ^ (7 * k):=Int.mul_le_mul_of_nonneg_right (by omega) hP0
    have hmul0 : 0 <= bt s (a + k) % 128 * 2 ^ (7 * k):=Int.mul_nonneg (by omega) hP0
    have hps:=pow_step k
    obtain ⟨v,hv0,hv1,hv2,hv3,hv4,hv5,hv6⟩:=ih (k + 1) _ n p (by omega) (by omega) (by rw [hps];omega) h
    have hv:=hv2 (by omega)
    have e : x + bt s (a + k) % 128 * 2 ^ (7 * k) + v * 2 ^ (7 * (k + 1)) = x + (bt s (a + k) % 128 + 128 * v) * 2 ^ (7 * k):=by
     rw [hps,Int.add_mul,Int.add_assoc]
     congr 2
     rw [Int.mul_comm 128 v,Int.mul_assoc]
    rw [e] at hv3 hv5
    have hbig : encL (f + 1) (bt s (a + k) % 128 + 128 * v) = bt s (a + k) :: encL f v:=by
     rw [encL_big (by omega)]
     congr 1
     · omega
     · congr 1;omega
    refine ⟨bt s (a + k) % 128 + 128 * v,by omega,by simp only [capN];omega,fun _ => by omega,hv3,?_,hv5,?_⟩
    · rw [hbig]
      exact HoldsL.cons (by omega) rfl (by rw [show a + k + 1 = a + (k + 1) by omega];exact hv4)
    · rw [hbig,hv6];simp;omega
theorem fold_unf {v : Int} (h0 : 0 <= v) (h1 : v < 18446744073709551616) : foldI (unf v) = v /\ i64P (unf v):=by
 by_cases hp : v % 2 = 1
 · rw [unf_odd hp,foldI_neg (by omega)]
   unfold i64P
   omega
 · rw [unf_even hp,foldI_pos (by omega)]
   unfold i64P
   omega
theorem back_num {u : ByteArray} {a : Nat} {n p : Int} (h : rdS u a 10 0 0 = (n,p,0)) : i64P n /\ HoldsL u a (encN (foldI n)) /\ p = (a : Int) + ((numS n).size : Int):=by
 obtain ⟨v,h0,h1,_,h3,h4,h5,h6⟩:=back_enc 9 0 0 n p rfl (by omega) (by decide) h
 simp only [Nat.mul_zero,Int.pow_zero,Int.mul_one,Int.zero_add] at h3 h5
 obtain ⟨f1,f2⟩:=fold_unf h0 h3
 rw [<- h5] at f1 f2
 refine ⟨f2,?_,?_⟩
 · rw [f1];exact h4
 · rw [numS_len,f1,h6];simp [encN]
theorem bt_ext {s t : ByteArray} (hs : s.size = t.size) (h : ∀ i,i < s.size -> bt s i = bt t i) : s = t:=by
 apply ByteArray.ext
 apply Array.toList_inj.1
 apply List.ext_getElem
 · simpa using hs
 · intro i h1 h2
   have hi : i < s.size:=by simpa using h1
   have ht : i < t.size:=by simpa using h2
   have:=h i hi
   unfold bt at this
   rw [dif_pos hi,dif_pos ht] at this
   have e : s[i].toNat = t[i].toNat:=by omega
   have e2 : s[i] = t[i]:=UInt8.toNat_inj.1 e
   rw [Array.getElem_toList,Array.getElem_toList]
   exact e2
theorem bt_piece {s : ByteArray} {a b i : Nat} (hb : b <= s.size) (hi : i < b - a) : bt (s.extract a b) i = bt s (a + i):=by
 unfold bt
 have h1 : i < (s.extract a b).size:=by rw [ByteArray.size_extract];omega
 rw [dif_pos h1,dif_pos (by omega)]
 congr 2
 simp [ByteArray.getElem_extract]
theorem piece_num {u : ByteArray} {a : Nat} {n : Int} (hn : i64P n) (h : HoldsL u a (encN (foldI n))) : u.extract a (a + (numS n).size) = numS n /\ a + (numS n).size <= u.size:=by
 have hl:=numS_len n
 have h1:=(numS_size n).1
 have hle : a + (numS n).size <= u.size:=by
  have:=(h ((numS n).size - 1) (by omega)).1
  omega
 refine ⟨?_,hle⟩
 refine bt_ext (by rw [ByteArray.size_extract];omega) (fun i hi => ?_)
 rw [ByteArray.size_extract] at hi
 rw [bt_piece hle (by omega),(h i (by omega)).2]
 unfold numS
 rw [bt_nums (enc_ok hn) (by omega)]
theorem back_text {u : ByteArray} {a : Nat} {t : ByteArray} {p : Int} (h : txtS u a = (t,p,0)) : t.size <= 8000 /\ u.extract a p.toNat = numS t.size ++ t /\ 0 <= p /\ p <= (u.size : Int) /\ (a : Int) <= p:=by
 unfold txtS at h
 split at h
 · rename_i h1
   simp only [Prod.mk.injEq] at h
   exact absurd h.2.2 h1
 rename_i h1
 split at h
 · simp at h
 rename_i h2
 split at h
 · simp at h
 rename_i h3
 obtain ⟨⟨n,q,c⟩,hr⟩ : ∃ r,r = rdS u a 10 0 0:=⟨_,rfl⟩
 rw [<- hr] at h h1 h2 h3
 dsimp only at h h1 h2 h3
 obtain rfl : c = 0:=by omega
 obtain ⟨hi,hh,hq⟩:=back_num hr.symm
 obtain ⟨hp1,hp2⟩:=piece_num hi hh
 simp only [Prod.mk.injEq,and_true] at h
 obtain ⟨rfl,rfl⟩:=h
 obtain ⟨m,rfl⟩:=Int.eq_ofNat_of_zero_le (show 0 <= n by omega)
 have hqn : q.toNat = a + (numS (m : Int)).size:=by omega
 have hsz : (u.extract q.toNat (q.toNat + (m : Int).toNat)).size = m:=by rw [ByteArray.size_extract];omega
 rw [hsz]
 refine ⟨by omega,?_,by omega,by omega,by omega⟩
 have e : (q + (m : Int)).toNat = q.toNat + m:=by omega
 rw [e,Int.toNat_natCast,<- hp1,<- hqn,ByteArray.extract_append_extract]
 congr 1 <;> omega
end Go.Proofs.YtbgoldeopmlbnaaGreatDoor.MGet
namespace Go.Proofs.YtbgoldeopmlbnaaGreatDoor.MCrc
open Go.PlainAid
theorem ext_bt {s s' : ByteArray} (hs : s.size = s'.size) (h : ∀ i,i < s.size -> bt s i = bt s' i) : s = s':=by
 apply ByteArray.ext
 apply Array.ext
 · simpa using hs
 · intro i h1 h2
   have h3 : i < s.size:=by simpa using h1
   have h4 : i < s'.size:=by simpa using h2
   have:=h i h3
   unfold bt at this
   rw [dif_pos h3,dif_pos h4] at this
   have h5 : s[i].toNat = s'[i].toNat:=by exact_mod_cast this
   exact UInt8.toNat_inj.1 h5
theorem bt_extract {s : ByteArray} {a b i : Nat} (hb : b <= s.size) (hi : i < b - a) : bt (s.extract a b) i = bt s (a + i):=by
 unfold bt
 rw [dif_pos (by rw [ByteArray.size_extract];omega),dif_pos (by omega)]
 congr 2
 simp [ByteArray.getElem_extract]
end Go.Proofs.YtbgoldeopmlbnaaGreatDoor.MCrc
