/- Used by the law. -/
import Derived.Lib.OthersKept
import Derived.Lib.ConvBytes
import Derived.Shelf.Abstract
import Derived.Deep.Cut
import Derived.Test.YtbgoldeopmlbnaaGreatDoorQB03
set_option maxRecDepth 100000
set_option maxHeartbeats 16000000
namespace Go.Proofs.YtbgoldeopmlbnaaGreatDoor
open Go.RowKit Go.PlainAid G MGF IRow
set_option linter.unusedVariables false
theorem DrawnC.trans {a b c : World} {p cb co sl sc : Nat} {sa : Option Addr} (h : DrawnC a b p cb co sl sc sa) (k : DrawnC b c p cb co sl sc sa) : DrawnC a c p cb co sl sc sa:=⟨k.src,grownBy_trans h.gr k.gr⟩
theorem DrawnC.below {a b c : World} {p cb co sl sc : Nat} {sa : Option Addr} (h : DrawnC a b p cb co sl sc sa) (k : Below b.heap.size b c) : DrawnC a c p cb co sl sc sa:=⟨h.src.below k,grown_belowD h.gr k⟩
end Go.Proofs.YtbgoldeopmlbnaaGreatDoor
namespace Go.Proofs.YtbgoldeopmlbnaaGreatDoor.MNum
def foldI (n : Int) : Int:=if 0 <= n then 2 * n else -2 * n - 1
def p64 : Int:=18446744073709551616
def i64P (n : Int) : Prop:=-9223372036854775808 <= n /\ n <= 9223372036854775807
theorem foldI_range {n : Int} (h : i64P n) : 0 <= foldI n /\ foldI n < p64:=by unfold foldI p64;unfold i64P at h;split <;> omega
theorem foldI_pos {n : Int} (h : 0 <= n) : foldI n = 2 * n:=by simp [foldI,h]
theorem foldI_neg {n : Int} (h : n < 0) : foldI n = -2 * n - 1:=by simp [foldI,show ¬ 0 <= n by omega]
def encL : Nat -> Int -> List Int
 | 0,u => [u]
 | f + 1,u => if u < 128 then [u] else (u % 128 + 128) :: encL f (u / 128)
def encN (u : Int) : List Int:=encL 9 u
def capN : Nat -> Int
 | 0 => 128
 | f + 1 => 128 * capN f
theorem encL_small {f : Nat} {u : Int} (h : u < 128) : encL f u = [u]:=by cases f <;> simp [encL,h]
theorem encL_big {f : Nat} {u : Int} (h : 128 <= u) : encL (f + 1) u = (u % 128 + 128) :: encL f (u / 128):=by simp [encL,show ¬ u < 128 by omega]
theorem cap_step {f : Nat} {u : Int} (h : u < capN (f + 1)) : u / 128 < capN f:=by simp only [capN] at h;omega
theorem cap_all {u : Int} (h : u < p64) : u < capN 9:=by unfold p64 at h;simp [capN];omega
theorem encL_len (f : Nat) (u : Int) : 1 <= (encL f u).length /\ (encL f u).length <= f + 1:=by
 induction f generalizing u with
 | zero => simp [encL]
 | succ f ih => simp only [encL];split <;> simp;exact (ih _).2
theorem encN_len (u : Int) : 1 <= (encN u).length /\ (encN u).length <= 10:=encL_len 9 u
def numS (n : Int) : ByteArray:=strOfNums (encN (foldI n))
theorem numS_size (n : Int) : 1 <= (numS n).size /\ (numS n).size <= 10:=by unfold numS;rw [strOfNums_size];exact encN_len _
end Go.Proofs.YtbgoldeopmlbnaaGreatDoor.MNum
namespace Go.Proofs.YtbgoldeopmlbnaaGreatDoor
open Go.RowKit MNum G
set_option linter.unusedVariables false
set_option maxRecDepth 100000
theorem folded_any (n : Int) (w : World) (h : i64P n) :
 Calls Tryz.prog 63 #[.int .i64 n] w fun e w' => e = .returned (.int .u64 (foldI n)) /\ w = w':=by
 unfold i64P at h
 by_cases a : 0 <= n
 · go_enter Tryz.func63,Tryz.ntmps63
   go_wp2
   go_ret
   exact ⟨ret_int (by rw [foldI_pos a]),rfl⟩
 · go_enter Tryz.func63,Tryz.ntmps63
   go_wp2
   go_ret
   exact ⟨ret_int (by rw [foldI_neg (by omega)];omega),rfl⟩
theorem l01Fold_any (n : Int) (w : World) (h : i64P n) :
 Calls Tryz.prog 86 #[.int .i64 n] w fun e w' => e = .returned (.int .u64 (foldI n)) /\ w = w':=by
 unfold i64P at h
 by_cases a : 0 <= n
 · go_enter Tryz.func86,Tryz.ntmps86
   go_wp2
   go_ret
   exact ⟨ret_int (by rw [foldI_pos a]),rfl⟩
 · go_enter Tryz.func86,Tryz.ntmps86
   go_wp2
   go_ret
   exact ⟨ret_int (by rw [foldI_neg (by omega)];omega),rfl⟩
theorem implPutNum_any (n : Int) (w : World) (h : i64P n) :
 Calls Tryz.prog 31 #[.int .i64 n] w fun e w' => e = .returned (.string (numS n)) /\ Below w.heap.size w w':=by
 have hr:=foldI_range h
 have h0:=hr.1
 have hcap:=qH (cap_all hr.2)
 have htop : Hid (foldI n <= 18446744073709551615):=by have:=hr.2;unfold p64 at this;exact (by omega : foldI n <= 18446744073709551615)
 clear hr
 obtain ⟨i0,hi,hz0,hz1,hz2⟩:=info_parts infoU8
 generalize hB : w.heap.size = B
 have HB:=qH hB;clear hB
 go_enter Tryz.func31,Tryz.ntmps31
 go_wp2_with (go_at_call 63;refine (folded_any _ _ h).mono ?_;rintro e w' ⟨rfl,rfl⟩)
 go_loopw [3,4] (fun u v wr => ∃ (x : Int) (zs : List Int) (f : Nat),u = .int .u64 x /\ 0 <= x /\ x <= 18446744073709551615 /\ x < capN f /\ wr.ownsRow B 5 1 v zs.length (zs.map (Value.int .u8)) /\ zs ++ encL f x = encN (foldI n) /\ zs.length + f <= 9 /\ Below B w wr)
  (fun u _ _ => (intOf u).toNat)
 case atStart => exact ⟨foldI n,[],9,rfl,h0,htop.out,hcap.out,World.ownsRow_nil _ _ _ _,rfl,by simp,Below.refl _ _⟩
 case round =>
  obtain ⟨x,zs,f,rfl,hx0,hxt,hxc,hown,he,hf,hbel⟩:=hrel
  have HC:=qH hxc;have HE:=qH he
  have hsz:=hbel.size
  rw [HB.out] at hsz
  clear hxc he
  by_cases hx : x < 128
  · have hfin : strOfNums (zs ++ [x]) = numS n:=by unfold numS;rw [<- HE.out,encL_small hx]
    have HF:=qH hfin;clear hfin
    go_wp2_with (at_builtin;refine append_one rfl (.tmp 18) (.tmp 21) 22 rfl 5 i0 (.int .u8 0) 1 Tryz.underlying22 hi hz0 hz1 hz2 rfl B w _ _ _ rfl hown (.int .u8 x) _ rfl rfl hbel (by omega) (by unfold maxLen;omega) (by omega) ?_;intro v' w1 hown' hb1;have hown2 : w1.ownsRow B 5 1 v' (zs.length + 1) ((zs ++ [x]).map (Value.int .u8)):=(by simpa using hown');have hcv:=conv_owned 22 9 5 Tryz.underlying22 Tryz.underlying5 Tryz.underlying9 _ _ _ _ hown2;clear hown' hown hown2 hbel)
    go_ret
    exact ⟨ret_string HF.out,hb1⟩
  · obtain ⟨f',rfl⟩ : ∃ f',f = f' + 1:=by
     cases f with
     | zero => exact absurd HC.out (by simp only [capN];omega)
     | succ f' => exact ⟨f',rfl⟩
    have hst : (zs ++ [x % 128 + 128]) ++ encL f' (x / 128) = encN (foldI n):=by rw [<- HE.out,encL_big (by omega)];simp
    have HST:=qH hst;clear hst
    have HC':=qH (cap_step HC.out);clear HC HE
    go_wp2_with (at_builtin;refine append_one rfl (.tmp 9) (.tmp 14) 22 rfl 5 i0 (.int .u8 0) 1 Tryz.underlying22 hi hz0 hz1 hz2 rfl B w _ _ _ rfl hown (.int .u8 (x % 128 + 128)) _ rfl rfl hbel (by omega) (by unfold maxLen;omega) (by omega) ?_;intro v' w1 hown' hb1;have hown2 : w1.ownsRow B 5 1 v' (zs ++ [x % 128 + 128]).length ((zs ++ [x % 128 + 128]).map (Value.int .u8)):=(by simpa using hown');clear hown' hown hbel)
    go_roundw
    case rel => exact ⟨x / 128,zs ++ [x % 128 + 128],f',rfl,by omega,by omega,HC'.out,hown2,HST.out,by simp;omega,hb1⟩
    case measure => simp [intOf];omega
theorem specPutNum_any (n : Int) (w : World) (h : i64P n) :
 Calls Tryz.prog 47 #[.int .i64 n] w fun e w' => e = .returned (.string (numS n)) /\ Below w.heap.size w w':=by
 have hr:=foldI_range h
 have h0:=hr.1
 have hcap:=qH (cap_all hr.2)
 have htop : Hid (foldI n <= 18446744073709551615):=by have:=hr.2;unfold p64 at this;exact (by omega : foldI n <= 18446744073709551615)
 clear hr
 obtain ⟨i0,hi,hz0,hz1,hz2⟩:=info_parts infoU8
 generalize hB : w.heap.size = B
 have HB:=qH hB;clear hB
 go_enter Tryz.func47,Tryz.ntmps47
 go_wp2_with (go_at_call 86;refine (l01Fold_any _ _ h).mono ?_;rintro e w' ⟨rfl,rfl⟩)
 go_loopw [3,4] (fun u v wr => ∃ (x : Int) (zs : List Int) (f : Nat),u = .int .u64 x /\ 0 <= x /\ x <= 18446744073709551615 /\ x < capN f /\ wr.ownsRow B 5 1 v zs.length (zs.map (Value.int .u8)) /\ zs ++ encL f x = encN (foldI n) /\ zs.length + f <= 9 /\ Below B w wr)
  (fun u _ _ => (intOf u).toNat)
 case atStart => exact ⟨foldI n,[],9,rfl,h0,htop.out,hcap.out,World.ownsRow_made w #[] 0 (by rw [HB.out];exact Nat.le_refl _) (by decide) rfl,rfl,by simp,(Below.refl _ _).alloc (by rw [HB.out];exact Nat.le_refl _) _⟩
 case round =>
  obtain ⟨x,zs,f,rfl,hx0,hxt,hxc,hown,he,hf,hbel⟩:=hrel
  have HC:=qH hxc;have HE:=qH he
  have hsz:=hbel.size
  rw [HB.out] at hsz
  clear hxc he
  by_cases hx : x < 128
  · have hfin : strOfNums (zs ++ [x]) = numS n:=by unfold numS;rw [<- HE.out,encL_small hx]
    have HF:=qH hfin;clear hfin
    go_wp2_with (at_builtin;refine append_one rfl (.tmp 19) (.tmp 22) 22 rfl 5 i0 (.int .u8 0) 1 Tryz.underlying22 hi hz0 hz1 hz2 rfl B w _ _ _ rfl hown (.int .u8 x) _ rfl rfl hbel (by omega) (by unfold maxLen;omega) (by omega) ?_;intro v' w1 hown' hb1;have hown2 : w1.ownsRow B 5 1 v' (zs.length + 1) ((zs ++ [x]).map (Value.int .u8)):=(by simpa using hown');have hcv:=conv_owned 22 9 5 Tryz.underlying22 Tryz.underlying5 Tryz.underlying9 _ _ _ _ hown2;clear hown' hown hown2 hbel)
    go_ret
    exact ⟨ret_string HF.out,hb1⟩
  · obtain ⟨f',rfl⟩ : ∃ f',f = f' + 1:=by
     cases f with
     | zero => exact absurd HC.out (by simp only [capN];omega)
     | succ f' => exact ⟨f',rfl⟩
    have hst : (zs ++ [x % 128 + 128]) ++ encL f' (x / 128) = encN (foldI n):=by rw [<- HE.out,encL_big (by omega)];simp
    have HST:=qH hst;clear hst
    have HC':=qH (cap_step HC.out);clear HC HE
    go_wp2_with (at_builtin;refine append_one rfl (.tmp 10) (.tmp 15) 22 rfl 5 i0 (.int .u8 0) 1 Tryz.underlying22 hi hz0 hz1 hz2 rfl B w _ _ _ rfl hown (.int .u8 (x % 128 + 128)) _ rfl rfl hbel (by omega) (by unfold maxLen;omega) (by omega) ?_;intro v' w1 hown' hb1;have hown2 : w1.ownsRow B 5 1 v' (zs ++ [x % 128 + 128]).length ((zs ++ [x % 128 + 128]).map (Value.int .u8)):=(by simpa using hown');clear hown' hown hbel)
    go_roundw
    case rel => exact ⟨x / 128,zs ++ [x % 128 + 128],f',rfl,by omega,by omega,HC'.out,hown2,HST.out,by simp;omega,hb1⟩
    case measure => simp [intOf];omega
end Go.Proofs.YtbgoldeopmlbnaaGreatDoor
