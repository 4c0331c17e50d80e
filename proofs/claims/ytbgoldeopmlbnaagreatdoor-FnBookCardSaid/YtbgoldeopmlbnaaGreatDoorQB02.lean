/- Used by the law. -/
import Derived.PlainAid
import Derived.Lib.UnsafeStr
import Derived.Lib.SlBytesRow
import Derived.Handy
import Derived.StillTailTactics
import Derived.KernelRfl
import Derived.Test.YtbgoldeopmlbnaaGreatDoorQB01
set_option maxRecDepth 100000
set_option maxHeartbeats 16000000
namespace Go.Proofs.YtbgoldeopmlbnaaGreatDoor
open Go.RowKit G
set_option linter.unusedVariables false
theorem tooLong_any (t : ByteArray) (w : World) (ht : t.size <= maxLen) :
 Calls Tryz.prog 64 #[.string t] w fun e w' => e = .returned (.bool (decide (8000 < t.size))) /\ w = w':=by
 unfold maxLen at ht
 by_cases h : 8000 < t.size
 all_goals
  go_enter Tryz.func64,Tryz.ntmps64
  go_wp2
  go_ret
  exact ⟨ret_bool (by simp;omega),rfl⟩
end Go.Proofs.YtbgoldeopmlbnaaGreatDoor
namespace Go.Proofs.YtbgoldeopmlbnaaGreatDoor.MCrc
open Go.PlainAid
def xor32 (x y : Int) : Int:=bits .xor .u32 x y
theorem xor32_range (x y : Int) : 0 <= xor32 x y /\ xor32 x y <= 4294967295:=bounds_u32 (wf_bits _ _ _ _)
theorem xor32_def (x y : Int) : bits .xor .u32 x y = xor32 x y:=rfl
theorem xor32_max (x : Int) : xor32 IntKind.u32.max x = xor32 x 4294967295:=by
 have e : IntKind.u32.max = 4294967295:=by decide
 rw [e]
 simp only [xor32,bits,BitVec.xor_comm]
def crcBit (y : Int) : Int:=if (bits .and .u32 y 1 == 1) = true then xor32 (y / 2) 3988292384 else y / 2
theorem crcBit_one {y : Int} (h : (bits .and .u32 y 1 == 1) = true) : crcBit y = xor32 (y / 2) 3988292384:=by unfold crcBit;rw [if_pos h]
theorem crcBit_nil {y : Int} (h : (bits .and .u32 y 1 == 1) = false) : crcBit y = y / 2:=by unfold crcBit;rw [if_neg (by rw [h];exact Bool.false_ne_true)]
def crcBits (y : Int) : Nat -> Int
 | 0 => y
 | n + 1 => crcBit (crcBits y n)
def crcTo (x : Int) (s : ByteArray) : Nat -> Int
 | 0 => x
 | k + 1 => crcBits (xor32 (crcTo x s k) (bt s k)) 8
theorem crcBit_range {y : Int} (h : 0 <= y /\ y <= 4294967295) : 0 <= crcBit y /\ crcBit y <= 4294967295:=by
 unfold crcBit
 split
 · exact xor32_range _ _
 · omega
theorem crcBits_range {y : Int} (h : 0 <= y /\ y <= 4294967295) (n : Nat) : 0 <= crcBits y n /\ crcBits y n <= 4294967295:=by
 induction n with
 | zero => exact h
 | succ n ih => exact crcBit_range ih
theorem crcTo_range {x : Int} (h : 0 <= x /\ x <= 4294967295) (s : ByteArray) (k : Nat) : 0 <= crcTo x s k /\ crcTo x s k <= 4294967295:=by
 cases k with
 | zero => exact h
 | succ k => exact crcBits_range (xor32_range _ _) 8
def crcOn (crc : Int) (s : ByteArray) : Int:=xor32 (crcTo (xor32 crc 4294967295) s s.size) 4294967295
theorem crcOn_range (crc : Int) (s : ByteArray) : 0 <= crcOn crc s /\ crcOn crc s <= 4294967295:=xor32_range _ _
theorem crcOn_end {crc : Int} {s : ByteArray} {k : Nat} (h1 : k <= s.size) (h2 : ¬ k < s.size) : xor32 (crcTo (xor32 crc 4294967295) s k) 4294967295 = crcOn crc s:=by
 obtain rfl : k = s.size:=by omega
 rfl
theorem crcTo_succ (x : Int) (s : ByteArray) (k : Nat) : crcTo x s (k + 1) = crcBits (xor32 (crcTo x s k) (bt s k)) 8:=rfl
theorem crcBits_succ (y : Int) (n : Nat) : crcBits y (n + 1) = crcBit (crcBits y n):=rfl
end Go.Proofs.YtbgoldeopmlbnaaGreatDoor.MCrc
namespace Go.Proofs.YtbgoldeopmlbnaaGreatDoor
open Go.RowKit G MCrc
set_option linter.unusedVariables false
theorem l01Crc_any (crc : Int) (s : ByteArray) (w : World) (h0 : 0 <= crc) (h1 : crc <= 4294967295) (hs : s.size <= maxLen) :
 Calls Tryz.prog 77 #[.int .i64 crc,.string s] w fun e w' => e = .returned (.int .i64 (crcOn crc s)) /\ w = w':=by
 unfold maxLen at hs
 have hb:=PlainAid.get_bt s
 have hxd:=xor32_def
 go_enter Tryz.func77,Tryz.ntmps77
 go_wp2_with fail
 have HR:=qH (xor32_range crc 4294967295)
 go_loop [5,6] (fun r i => ∃ k : Nat,k <= s.size /\ i = .int .i64 k /\ r = .int .u32 (crcTo (xor32 crc 4294967295) s k)) (fun _ i => s.size - (intOf i).toNat)
 case atStart => exact ⟨0,Nat.zero_le _,rfl,rfl⟩
 case round =>
  obtain ⟨k,hk,rfl,rfl⟩:=hrel
  have HX:=qH (crcTo_range HR.out s k)
  have HN:=qH (crcTo_succ (xor32 crc 4294967295) s k)
  have HE:=qH (fun h => crcOn_end (crc:=crc) (s:=s) (k:=k) hk h)
  generalize crcTo (xor32 crc 4294967295) s k = x at *
  by_cases hlt : k < s.size
  · have hb0:=PlainAid.bt_nonneg s k
    have hb1:=PlainAid.bt_le s k
    go_wp2_with fail
    have HY:=qH (xor32_range x (PlainAid.bt s k))
    generalize xor32 x (PlainAid.bt s k) = y at *
    go_loop [5,7] (fun r j => ∃ i : Nat,i <= 8 /\ j = .int .i64 i /\ r = .int .u32 (crcBits y i)) (fun _ j => 8 - (intOf j).toNat)
    case atStart => exact ⟨0,by omega,rfl,rfl⟩
    case round =>
     obtain ⟨i,hi,rfl,rfl⟩:=hrel
     have hz:=crcBits_range HY.out i
     have HZ:=qH (crcBits_succ y i)
     have HZ8 : Hid (i = 8 -> crcBits y i = crcBits y 8):=fun h => by rw [h]
     generalize crcBits y i = z at *
     obtain ⟨hz0,hz1⟩:=hz
     by_cases hl8 : i < 8
     · cases hbit : (bits .and .u32 z 1 == 1)
       · go_wp2_with fail
         go_round
         case rel => exact ⟨i + 1,by omega,by go_num,by rw [HZ.out,crcBit_nil hbit]⟩
         case measure => simp [intOf];omega
       · go_wp2_with fail
         go_round
         case rel => exact ⟨i + 1,by omega,by go_num,by rw [HZ.out,crcBit_one hbit]⟩
         case measure => simp [intOf];omega
     · have H8:=HZ8.out (by omega)
       have H8':=qH H8;clear H8
       go_wp2_with fail
       go_round
       case rel => exact ⟨k + 1,by omega,by go_num,by rw [HN.out,H8'.out]⟩
       case measure => simp [intOf];omega
  · have HE':=HE.out hlt
    have HF:=qH HE';clear HE'
    have hx0:=(xor32_range x 4294967295).1
    have hx1:=(xor32_range x 4294967295).2
    go_wp2_with fail
    go_ret
    exact ⟨ret_int HF.out,rfl⟩
theorem crcOver_any (r : Int) (s : ByteArray) (w : World) (h0 : 0 <= r) (h1 : r <= 4294967295) (hs : s.size <= maxLen) :
 Calls Tryz.prog 115 #[.int .u32 r,.string s] w fun e w' => e = .returned (.int .u32 (crcTo r s s.size)) /\ w = w':=by
 unfold maxLen at hs
 have hb:=PlainAid.get_bt s
 have hxd:=xor32_def
 go_enter Tryz.func115,Tryz.ntmps115
 go_wp2_with fail
 have HR : Hid (0 <= r /\ r <= 4294967295):=⟨h0,h1⟩
 go_loop [0,5] (fun r' i => ∃ k : Nat,k <= s.size /\ i = .int .i64 k /\ r' = .int .u32 (crcTo r s k)) (fun _ i => s.size - (intOf i).toNat)
 case atStart => exact ⟨0,Nat.zero_le _,rfl,rfl⟩
 case round =>
  obtain ⟨k,hk,rfl,rfl⟩:=hrel
  have hx:=crcTo_range HR.out s k
  have HN:=qH (crcTo_succ r s k)
  have HE : Hid (¬ k < s.size -> crcTo r s k = crcTo r s s.size):=fun h => by rw [show k = s.size by omega]
  generalize crcTo r s k = x at *
  obtain ⟨hx0,hx1⟩:=hx
  by_cases hlt : k < s.size
  · have hb0:=PlainAid.bt_nonneg s k
    have hb1:=PlainAid.bt_le s k
    go_wp2_with fail
    have HY:=qH (xor32_range x (PlainAid.bt s k))
    generalize xor32 x (PlainAid.bt s k) = y at *
    go_loop [0,19] (fun r' j => ∃ i : Nat,i <= 8 /\ j = .int .i64 i /\ r' = .int .u32 (crcBits y i)) (fun _ j => 8 - (intOf j).toNat)
    case atStart => exact ⟨0,by omega,rfl,rfl⟩
    case round =>
     obtain ⟨i,hi,rfl,rfl⟩:=hrel
     have hz:=crcBits_range HY.out i
     have HZ:=qH (crcBits_succ y i)
     have HZ8 : Hid (i = 8 -> crcBits y i = crcBits y 8):=fun h => by rw [h]
     generalize crcBits y i = z at *
     obtain ⟨hz0,hz1⟩:=hz
     by_cases hl8 : i < 8
     · cases hbit : (bits .and .u32 z 1 == 1)
       · go_wp2_with fail
         go_round
         case rel => exact ⟨i + 1,by omega,by go_num,by rw [HZ.out,crcBit_nil hbit]⟩
         case measure => simp [intOf];omega
       · go_wp2_with fail
         go_round
         case rel => exact ⟨i + 1,by omega,by go_num,by rw [HZ.out,crcBit_one hbit]⟩
         case measure => simp [intOf];omega
     · have H8':=qH (HZ8.out (by omega))
       go_wp2_with fail
       go_round
       case rel => exact ⟨k + 1,by omega,by go_num,by rw [HN.out,H8'.out]⟩
       case measure => simp [intOf];omega
  · have HF:=qH (HE.out hlt)
    go_wp2_with fail
    go_ret
    exact ⟨ret_int HF.out,rfl⟩
def crcMoreI (crc : Int) (s : ByteArray) : Int:=if s.size <= 8000 /\ 0 <= crc /\ crc <= 4294967295 then crcOn crc s else 0
theorem crcMoreI_no {crc : Int} {s : ByteArray} (h : 8000 < s.size ∨ crc < 0 ∨ 4294967295 < crc) : crcMoreI crc s = 0:=by unfold crcMoreI;rw [if_neg (by omega)]
theorem crcMoreI_yes {crc : Int} {s : ByteArray} (h : s.size <= 8000) (h0 : 0 <= crc) (h1 : crc <= 4294967295) : crcMoreI crc s = crcOn crc s:=by unfold crcMoreI;rw [if_pos ⟨h,h0,h1⟩]
theorem implCrcMore_any (crc : Int) (s : ByteArray) (w : World) (h : (Lit.int .i64 crc).wf = true) (hs : s.size <= maxLen) :
 Calls Tryz.prog 105 #[.int .i64 crc,.string s] w fun e w' => e = .returned (.int .i64 (crcMoreI crc s)) /\ w = w':=by
 obtain ⟨g0,g1⟩:=bounds_i64 h
 by_cases b : crc < 0
 · go_enter Tryz.func105,Tryz.ntmps105
   go_wp2_with (go_at_call 64;refine (tooLong_any _ _ hs).mono ?_;rintro e w1 ⟨rfl,rfl⟩)
   go_ret
   exact ⟨ret_int (crcMoreI_no (Or.inr (Or.inl b))).symm,rfl⟩
 · by_cases c : 4294967295 < crc
   · go_enter Tryz.func105,Tryz.ntmps105
     go_wp2_with (go_at_call 64;refine (tooLong_any _ _ hs).mono ?_;rintro e w1 ⟨rfl,rfl⟩)
     go_ret
     exact ⟨ret_int (crcMoreI_no (Or.inr (Or.inr c))).symm,rfl⟩
   · by_cases a : 8000 < s.size
     · go_enter Tryz.func105,Tryz.ntmps105
       go_wp2_with (go_at_call 64;refine (tooLong_any _ _ hs).mono ?_;rintro e w1 ⟨rfl,rfl⟩)
       go_ret
       exact ⟨ret_int (crcMoreI_no (Or.inl a)).symm,rfl⟩
     · have hxd:=xor32_def
       have hxm:=xor32_max
       go_enter Tryz.func105,Tryz.ntmps105
       go_wp2_with (go_at_call 64;refine (tooLong_any _ _ hs).mono ?_;rintro e w1 ⟨rfl,rfl⟩)
       refine (crcOver_any _ _ _ (xor32_range _ _).1 (xor32_range _ _).2 hs).mono ?_
       rintro e w1 ⟨rfl,rfl⟩
       have hr0:=crcOn_range crc s
       have HO : Hid (xor32 (crcTo (xor32 crc 4294967295) s s.size) 4294967295 = crcOn crc s):=rfl
       generalize crcTo (xor32 crc 4294967295) s s.size = x at *
       have hq0:=(xor32_range x 4294967295).1
       have hq1:=(xor32_range x 4294967295).2
       go_wp2_with fail
       go_ret
       exact ⟨ret_int (by rw [HO.out,crcMoreI_yes (by omega) (by omega) (by omega)]),rfl⟩
def crcI (s : ByteArray) : Int:=if s.size <= 8000 then crcOn 0 s else 0
theorem crcI_no {s : ByteArray} (h : 8000 < s.size) : crcI s = 0:=by unfold crcI;rw [if_neg (by omega)]
theorem crcI_yes {s : ByteArray} (h : s.size <= 8000) : crcI s = crcOn 0 s:=by unfold crcI;rw [if_pos h]
theorem crcMoreI_zero (s : ByteArray) : crcMoreI 0 s = crcI s:=by
 by_cases h : s.size <= 8000
 · rw [crcI_yes h,crcMoreI_yes h (by omega) (by omega)]
 · rw [crcI_no (by omega),crcMoreI_no (by omega)]
theorem implCrc_any (s : ByteArray) (w : World) (hs : s.size <= maxLen) :
 Calls Tryz.prog 92 #[.string s] w fun e w' => e = .returned (.int .i64 (crcI s)) /\ w = w':=by
 go_enter Tryz.func92,Tryz.ntmps92
 go_wp2_with fail
 refine (implCrcMore_any _ _ _ (by decide) hs).mono ?_
 rintro e w1 ⟨rfl,rfl⟩
 go_wp2_with fail
 go_ret
 exact ⟨ret_int (crcMoreI_zero s),rfl⟩
end Go.Proofs.YtbgoldeopmlbnaaGreatDoor
namespace Go.Proofs.YtbgoldeopmlbnaaGreatDoor.MJoin
open Go.Lib
def sumL (ps : List ByteArray) : Nat:=(ps.map ByteArray.size).sum
def catL (ps : List ByteArray) : List UInt8:=(ps.map fun p => p.data.toList).flatten
def catS (ps : List ByteArray) : ByteArray:=⟨(catL ps).toArray⟩
theorem catL_len (ps : List ByteArray) : (catL ps).length = sumL ps:=by
 induction ps with
 | nil => rfl
 | cons p ps ih => simp only [catL,sumL,List.map_cons,List.flatten_cons,List.length_append,List.sum_cons] at *;rw [ih];simp
theorem take_snoc (ps : List ByteArray) (k : Nat) (h : k < ps.length) : ps.take (k + 1) = ps.take k ++ [ps.getD k ByteArray.empty]:=by
 rw [List.take_succ_eq_append_getElem h]
 simp [List.getD,List.getElem?_eq_getElem h]
theorem sumL_snoc (ps : List ByteArray) (p : ByteArray) : sumL (ps ++ [p]) = sumL ps + p.size:=by simp [sumL]
theorem catL_snoc (ps : List ByteArray) (p : ByteArray) : catL (ps ++ [p]) = catL ps ++ p.data.toList:=by simp [catL]
theorem sumL_step {ps : List ByteArray} {k : Nat} (h : k < ps.length) : sumL (ps.take (k + 1)) = sumL (ps.take k) + (ps.getD k ByteArray.empty).size:=by rw [take_snoc ps k h,sumL_snoc]
theorem sumL_le (ps : List ByteArray) (k : Nat) : sumL (ps.take k) <= sumL ps:=by
 induction ps generalizing k with
 | nil => simp [sumL]
 | cons p ps ih =>
  cases k with
  | zero => simp [sumL]
  | succ k => have:=ih k;simp only [sumL,List.take_succ_cons,List.map_cons,List.sum_cons] at *;omega
theorem sumL_all {ps : List ByteArray} {k : Nat} (h : ps.length <= k) : sumL (ps.take k) = sumL ps:=by rw [List.take_of_length_le h]
def fill (l : List UInt8) (n : Nat) : Array Value:=(byteCells l ++ List.replicate (n - l.length) (Value.int .u8 0)).toArray
theorem fill_size {l : List UInt8} {n : Nat} (h : l.length <= n) : (fill l n).size = n:=by simp [fill,byteCells];omega
theorem fill_spl {ps : List ByteArray} {k : Nat} (h : k < ps.length) : G.spl (fill (catL (ps.take k)) (sumL ps)) (sumL (ps.take k)) (ps.getD k ByteArray.empty) = fill (catL (ps.take (k + 1))) (sumL ps):=by
 have h1:=sumL_step h
 have h2:=sumL_le ps (k + 1)
 have l1:=catL_len (ps.take k)
 have lb : (byteCells (catL (ps.take k))).length = sumL (ps.take k):=by rw [byteCells_length,l1]
 unfold G.spl fill
 congr 1
 rw [take_snoc ps k h,catL_snoc,byteCells_append,List.length_append,l1,List.take_append_of_le_length (by rw [lb];exact Nat.le_refl _),List.take_of_length_le (by rw [lb];exact Nat.le_refl _)]
 rw [List.append_assoc]
 congr 1
 congr 1
 show List.drop _ (_ ++ _) = _
 rw [List.drop_append,List.drop_of_length_le (by rw [lb];omega),lb,List.nil_append,List.drop_replicate]
 congr 1
 simp
 omega
theorem fill_made (n : Nat) : (madeCells (Value.int .u8 0).cells (n * 1)) = fill [] n:=by
 apply Array.ext
 · simp [fill,size_madeCells,byteCells]
 · intro i h1 h2
   simp [fill,madeCells,byteCells,Value.cells,Nat.mod_one]
theorem made_row {w : World} {base g n : Nat} {e : TypeId} {z : Value} (h : w.ownsRow base e 1 (.slice (some ⟨g,0,none⟩) n n) n (madeCells z.cells (n * 1)).toList) :
 w.heap[g]? = some (.cells (madeCells z.cells (n * 1)) e (0,0)):=by
 rcases h.2 with ⟨h,_⟩ | ⟨g',cap,cur,hv,_,hg,_,_,hcs,htake⟩
 · cases h
 · injection hv with h1 h2 h3
   injection h1 with h1
   injection h1 with h1
   subst h1 h3
   have e1 : cur = madeCells z.cells (n * 1):=by
    apply Array.toList_inj.1
    rw [<- htake,List.take_of_length_le (by simp [hcs])]
   rw [hg,e1]
theorem made_fill {w : World} {base g n : Nat} {e : TypeId} (h : w.ownsRow base e 1 (.slice (some ⟨g,0,none⟩) n n) n (madeCells (Value.int .u8 0).cells (n * 1)).toList) :
 w.heap[g]? = some (.cells (fill [] n) e (0,0)):=by rw [made_row h,fill_made]
theorem conv_fill {P : Program} {w : World} (src dst e t : TypeId) (hs : P.underlying src = some (.slice e)) (he : P.underlying e = some (.int .u8)) (hd : P.underlying dst = some .string)
 (g : Nat) (ps : List ByteArray) (hg : w.heap[g]? = some (.cells (fill (catL ps) (sumL ps)) t (0,0))) (cap : Nat) :
 (convert src dst (.slice (some ⟨g,0,none⟩) (sumL ps) cap)).run P w = .ok (.string (catS ps)) w:=by
 have hsz : (catS ps).size = sumL ps:=by rw [<- catL_len];simp [catS,ByteArray.size]
 have h:=Lib.run_convert_whole (P:=P) w src e dst hs he hd g 0 (catS ps) (fun i hi => by
  have hil : i < (catL ps).length:=by rw [catL_len,<- hsz];exact hi
  rw [Nat.zero_add,cell_of_row w g i _ _ _ hg]
  unfold fill
  rw [List.getElem?_toArray,List.getElem?_append_left (by rw [byteCells_length];exact hil)]
  simp [byteCells,hil]
  rfl) cap
 rwa [hsz] at h
end Go.Proofs.YtbgoldeopmlbnaaGreatDoor.MJoin
namespace Go.Proofs.YtbgoldeopmlbnaaGreatDoor
open Go.RowKit MJoin G
set_option linter.unusedVariables false
theorem joined_any (b off cap : Nat) (ps : List ByteArray) (w : World) (hb : b < w.heap.size)
 (hc : ∀ k,k < ps.length -> w.cell? ⟨b,off + k,none⟩ = some (.string (ps.getD k ByteArray.empty))) (hl : ps.length <= 1099511627776) (hsum : sumL ps <= 1099511627776) :
 Calls Tryz.prog 35 #[.slice (some ⟨b,off,none⟩) ps.length cap] w fun e w' => e = .returned (.string (catS ps)) /\ Below w.heap.size w w':=by
 obtain ⟨i0,hi,hz0,hz1,hz2⟩:=info_parts infoU8
 have HCELL:=qH hc;clear hc
 go_enter Tryz.func35,Tryz.ntmps35
 go_wp2_with fail
 go_loop [3,12] (fun sz i => ∃ k : Nat,k <= ps.length /\ i = .int .i64 k /\ sz = .int .i64 (sumL (ps.take k))) (fun _ i => ps.length - (intOf i).toNat)
 case atStart => exact ⟨0,Nat.zero_le _,rfl,rfl⟩
 case round =>
  obtain ⟨k,hk,rfl,rfl⟩:=hrel
  by_cases hlt : k < ps.length
  · have hc:=HCELL.out k hlt
    have hs1:=sumL_step hlt
    have hs2:=sumL_le ps (k + 1)
    have hs3 : sumL (ps.take k) + (ps.getD k ByteArray.empty).size <= 1099511627776:=by omega
    have HS:=qH hs1
    clear hs1 hs2
    generalize ps.getD k ByteArray.empty = p at hc hs3 HS
    go_wp2_with fail
    go_round
    case rel => exact ⟨k + 1,by omega,by go_num,by rw [HS.out];go_num⟩
    case measure => simp [intOf];omega
  · have hall:=qH (sumL_all (ps:=ps) (k:=k) (by omega))
    have hle:=sumL_le ps k
    have h0 : (0 : Int) <= (sumL (ps.take k) : Int):=by omega
    go_wp2_with (at_make;refine wpList_make_full _ rfl (.tmp 21) (.tmp 21) 22 rfl w.heap.size 5 i0 (.int .u8 0) 1 Tryz.underlying22 hi hz0 hz1 .i64 .i64 _ _ (sumL ps) rfl rfl (by rw [hall.out]) (by rw [hall.out]) (by rw [hz2];omega) (by unfold maxLen;omega) (Nat.le_refl _) ?_;intro w1 hown1 hgrow1)
    have hb1 : Below w.heap.size w w1:=(Below.refl _ _).grown hgrow1 (Nat.le_refl _) (fun k hk => by cases hk)
    have hg1 : Hid (w1.heap[w.heap.size]? = some (.cells (fill (catL (ps.take 0)) (sumL ps)) 5 (0,0))):=made_fill hown1
    clear hown1 hgrow1
    go_loopw [7,25] (fun at_ i wr => ∃ k : Nat,k <= ps.length /\ i = .int .i64 k /\ at_ = .int .i64 (sumL (ps.take k)) /\ Hid (wr.heap[w.heap.size]? = some (.cells (fill (catL (ps.take k)) (sumL ps)) 5 (0,0))) /\ Below w.heap.size w wr) (fun _ i _ => ps.length - (intOf i).toNat)
    case atStart => exact ⟨0,Nat.zero_le _,rfl,rfl,hg1,hb1⟩
    case round =>
     obtain ⟨k2,hk2,rfl,rfl,hg,hbel⟩:=hrel
     clear hg1 hb1
     by_cases hlt : k2 < ps.length
     · have hc : wr.cell? ⟨b,off + k2,none⟩ = some (.string (ps.getD k2 ByteArray.empty)):=(hbel.cell hb).trans (HCELL.out k2 hlt)
       have hs1:=sumL_step hlt
       have hs2:=sumL_le ps (k2 + 1)
       have hs3 : sumL (ps.take k2) + (ps.getD k2 ByteArray.empty).size <= sumL ps:=by omega
       have HS:=qH hs1
       have HF:=qH (fill_spl hlt)
       have hfs:=qH (fill_size (l:=catL (ps.take k2)) (n:=sumL ps) (by rw [catL_len];omega))
       clear hs1 hs2
       generalize ps.getD k2 ByteArray.empty = p at hc hs3 HS HF
       have hsl:=fun W => run_cut_from (P:=Tryz.prog) W 22 5 Tryz.underlying22 sizeOfU8 w.heap.size 0 (sumL ps) (sumL ps) (sumL (ps.take k2)) (by omega)
       obtain ⟨cur,hcur⟩ : ∃ cur,cur = fill (catL (ps.take k2)) (sumL ps):=⟨_,rfl⟩
       have HCUR:=qH hcur
       rw [<- hcur] at hg hfs HF
       clear hcur
       go_wp2_with (refine copy_str rfl (.tmp 32) (.tmp 33) 22 9 rfl 5 Tryz.underlying22 sizeU8 _ _ _ rfl p rfl w.heap.size (sumL (ps.take k2)) cur 5 hg.out (by omega) (fun h => by rw [cutAt_lt (by omega),Nat.zero_add]) (by rw [hfs.out];exact hs3) w.heap.size w hbel (Nat.le_refl _) ?_;intro w2 hg2 hb2;clear hg hbel hsl hc)
       go_roundw
       case rel => exact ⟨k2 + 1,by omega,by go_num,by rw [HS.out];go_num,by rw [HF.out] at hg2;exact hg2,hb2⟩
       case measure => simp [intOf];omega
     · have hg':=hg.out
       rw [List.take_of_length_le (by omega)] at hg'
       have hcv:=conv_fill 22 9 5 _ Tryz.underlying22 Tryz.underlying5 Tryz.underlying9 _ _ hg' (sumL ps)
       clear hg' hg
       go_wp2_with fail
       go_ret
       exact ⟨rfl,hbel⟩
theorem catS_two (a b : ByteArray) : catS [a,b] = a ++ b:=by
 apply ByteArray.ext
 apply Array.toList_inj.1
 simp [catS,catL]
theorem catS_one (a : ByteArray) : catS [a] = a:=by
 apply ByteArray.ext
 apply Array.toList_inj.1
 simp [catS,catL]
theorem joined_two (x y : ByteArray) (T : TypeId) (w : World) (hx : x.size <= 1000000000) (hy : y.size <= 1000000000) :
 Calls Tryz.prog 35 #[.slice (some ⟨w.heap.size,0,none⟩) 2 2] (w.alloc (.cells #[.string x,.string y] T)) fun e w' => e = .returned (.string (x ++ y)) /\ Below w.heap.size w w':=by
 refine (joined_any w.heap.size 0 2 [x,y] (w.alloc (.cells #[.string x,.string y] T)) (by simp) ?_ (by simp) (by simp [sumL];omega)).mono ?_
 · intro k hk
   match k,hk with
   | 0,_ => simp
   | 1,_ => simp
   | k + 2,hk => simp at hk;omega
 · rintro e w' ⟨rfl,hb⟩
   exact ⟨by rw [catS_two],((Below.refl _ _).alloc (Nat.le_refl _) _).trans (hb.mono (by simp))⟩
theorem joined_one (x : ByteArray) (T : TypeId) (w : World) (hx : x.size <= 1000000000) :
 Calls Tryz.prog 35 #[.slice (some ⟨w.heap.size,0,none⟩) 1 1] (w.alloc (.cells #[.string x] T)) fun e w' => e = .returned (.string x) /\ Below w.heap.size w w':=by
 refine (joined_any w.heap.size 0 1 [x] (w.alloc (.cells #[.string x] T)) (by simp) ?_ (by simp) (by simp [sumL];omega)).mono ?_
 · intro k hk
   match k,hk with
   | 0,_ => simp
   | k + 1,hk => simp at hk
 · rintro e w' ⟨rfl,hb⟩
   exact ⟨by rw [catS_one],((Below.refl _ _).alloc (Nat.le_refl _) _).trans (hb.mono (by simp))⟩
end Go.Proofs.YtbgoldeopmlbnaaGreatDoor
namespace Go.Proofs.YtbgoldeopmlbnaaGreatDoor
open Go.RowKit G MCrc
set_option linter.unusedVariables false
def fourL (c : Int) : List Int:=[c % 256,c / 256 % 256,c / 65536 % 256,c / 16777216]
theorem crcI_range (s : ByteArray) : 0 <= crcI s /\ crcI s <= 4294967295:=by
 unfold crcI
 split
 · exact crcOn_range _ _
 · omega
theorem l01Four_any (n : Int) (w : World) (h0 : 0 <= n) (h1 : n <= 4294967295) :
 Calls Tryz.prog 76 #[.int .i64 n] w fun e w' => e = .returned (.string (strOfNums (fourL n))) /\ Below w.heap.size w w':=by
 go_enter Tryz.func76,Tryz.ntmps76
 have hcv:=conv_block (P:=Tryz.prog) (w:=w.alloc (.cells ((fourL n).map (Value.int .u8)).toArray 5)) 22 9 5 5 Tryz.underlying22 Tryz.underlying5 Tryz.underlying9 w.heap.size 4 4 (fourL n) (0,0) (heap_alloc_new w _) rfl
 simp only [fourL,List.map_cons,List.map_nil] at hcv
 go_wp2_with fail
 go_ret
 exact ⟨rfl,(Below.refl _ _).alloc (Nat.le_refl _) _⟩
theorem sumOf_any (s : ByteArray) (w : World) (hs : s.size <= maxLen) :
 Calls Tryz.prog 65 #[.string s] w fun e w' => e = .returned (.string (strOfNums (fourL (crcI s)))) /\ Below w.heap.size w w':=by
 go_enter Tryz.func65,Tryz.ntmps65
 go_wp2_with fail
 refine (implCrc_any _ _ hs).mono ?_
 rintro e w1 ⟨rfl,rfl⟩
 have hc0:=crcI_range s
 generalize hcc : crcI s = c at *
 have HC:=qH hcc;clear hcc
 obtain ⟨hc0,hc1⟩:=hc0
 have hcv:=conv_block (P:=Tryz.prog) (w:=w.alloc (.cells (([c % 256,c / 256 % 256,c / 256 / 256 % 256,c / 256 / 256 / 256 % 256] : List Int).map (Value.int .u8)).toArray 126)) 22 9 5 126 Tryz.underlying22 Tryz.underlying5 Tryz.underlying9 w.heap.size 4 4 [c % 256,c / 256 % 256,c / 256 / 256 % 256,c / 256 / 256 / 256 % 256] (0,0) (heap_alloc_new w _) rfl
 simp only [List.map_cons,List.map_nil] at hcv
 have e4 : [c % 256,c / 256 % 256,c / 256 / 256 % 256,c / 256 / 256 / 256 % 256] = fourL c:=by
  unfold fourL
  rw [show c / 256 / 256 = c / 65536 by omega,show c / 65536 / 256 % 256 = c / 16777216 by omega]
 have E4:=qH e4;clear e4
 go_wp2_with fail
 go_rounds 5
 go_ret
 exact ⟨ret_string (by rw [E4.out,HC.out]),(Below.refl _ _).alloc (Nat.le_refl _) _⟩
def crc4 (s : ByteArray) : ByteArray:=strOfNums (fourL (crcI s))
theorem crc4_def (s : ByteArray) : strOfNums (fourL (crcI s)) = crc4 s:=rfl
theorem crc4_size (s : ByteArray) : (crc4 s).size = 4:=by unfold crc4;rw [strOfNums_size];rfl
def sealS (s : ByteArray) : ByteArray:=if s.size <= 7996 then s ++ crc4 s else ⟨#[]⟩
theorem sealS_no {s : ByteArray} (h : 7996 < s.size) : sealS s = ⟨#[]⟩:=by unfold sealS;rw [if_neg (by omega)]
theorem sealS_yes {s : ByteArray} (h : s.size <= 7996) : sealS s = s ++ crc4 s:=by unfold sealS;rw [if_pos h]
theorem specSeal_any (s : ByteArray) (w : World) (hs : s.size <= maxLen) :
 Calls Tryz.prog 50 #[.string s] w fun e w' => e = .returned (.string (sealS s)) /\ Below w.heap.size w w':=by
 unfold maxLen at hs
 by_cases a : 7996 < s.size
 · go_enter Tryz.func50,Tryz.ntmps50
   go_wp2_with fail
   go_ret
   exact ⟨ret_string (sealS_no a).symm,Below.refl _ _⟩
 · go_enter Tryz.func50,Tryz.ntmps50
   go_wp2_with fail
   refine (l01Crc_any _ _ _ (by omega) (by omega) (by unfold maxLen;omega)).mono ?_
   rintro e w1 ⟨rfl,rfl⟩
   go_wp2_with fail
   refine (l01Four_any _ _ (crcOn_range 0 s).1 (crcOn_range 0 s).2).mono ?_
   rintro e w1 ⟨rfl,hb1⟩
   have hz:=crc4_size s
   have HF : Hid (strOfNums (fourL (crcOn 0 s)) = crc4 s):=by unfold crc4;rw [crcI_yes (by omega)];exact rfl
   rw [<- HF.out] at hz
   generalize strOfNums (fourL (crcOn 0 s)) = x at *
   have hz' : x.size <= 4:=by omega
   clear hz
   go_wp2_with fail
   go_ret
   exact ⟨ret_string (by rw [sealS_yes (by omega),HF.out]),hb1⟩
theorem implSeal_any (s : ByteArray) (w : World) (hs : s.size <= maxLen) :
 Calls Tryz.prog 34 #[.string s] w fun e w' => e = .returned (.string (sealS s)) /\ Below w.heap.size w w':=by
 unfold maxLen at hs
 by_cases a : 7996 < s.size
 · go_enter Tryz.func34,Tryz.ntmps34
   go_wp2_with fail
   go_ret
   exact ⟨ret_string (sealS_no a).symm,Below.refl _ _⟩
 · go_enter Tryz.func34,Tryz.ntmps34
   go_wp2_with fail
   refine (sumOf_any _ _ (by unfold maxLen;omega)).mono ?_
   rintro e w1 ⟨rfl,hb1⟩
   have hz:=crc4_size s
   have HF:=qH (crc4_def s)
   rw [<- HF.out] at hz
   generalize strOfNums (fourL (crcI s)) = x at *
   have hz' : x.size <= 4:=by omega
   clear hz
   go_wp2_with fail
   refine (joined_two _ _ _ _ (by omega) (by omega)).mono ?_
   rintro e w2 ⟨rfl,hb2⟩
   go_wp2_with fail
   go_ret
   exact ⟨ret_string (by rw [sealS_yes (by omega),HF.out]),hb1.trans (hb2.mono hb1.size)⟩
end Go.Proofs.YtbgoldeopmlbnaaGreatDoor
namespace Go.Proofs.YtbgoldeopmlbnaaGreatDoor
open Go.RowKit G MCrc
set_option linter.unusedVariables false
theorem lwAt_any (ao : Option Addr) (len cap k : Nat) (most : Int) (w : World) (hC : CodeAt w ao len) (hl : len <= 1048576) (hk : k <= 1000) (hm : most <= 9223372036854775807) :
 Calls Tryz.prog 24 #[.slice ao len cap,.int .i64 k,.int .i64 most] w fun e w' => ∃ r : Int,e = .returned (.int .i64 r) /\ 0 <= r /\ (r < most ∨ r = 0) /\ w = w':=by
 by_cases hm1 : most <= 1
 · go_enter Tryz.func24,Tryz.ntmps24
   go_wp2_with fail
   go_ret
   exact ⟨0,rfl,by omega,Or.inr rfl,rfl⟩
 · by_cases h0 : len = 0
   · subst h0
     go_enter Tryz.func24,Tryz.ntmps24
     go_wp2_with fail
     go_ret
     exact ⟨0,rfl,by omega,Or.inr rfl,rfl⟩
   · obtain ⟨cb,co,ha,hz⟩:=hC
     obtain rfl:=ha (by omega)
     have hmod : k % len < len:=Nat.mod_lt _ (by omega)
     obtain ⟨z,z0,z1,hc⟩:=hz (k % len) hmod
     have hne : ((len : Int) == 0) = false:=by simp;omega
     have hlp : (1 : Int) <= (len : Int):=by omega
     have ek : (k : Int) % (len : Int) = ((k % len : Nat) : Int):=by omega
     generalize k % len = i at *
     clear hz
     have EK:=qH ek
     go_enter Tryz.func24,Tryz.ntmps24
     go_wp2_with fail
     go_ret
     first
      | exact ⟨_,rfl,Int.emod_nonneg _ (by omega),Or.inl (Int.emod_lt_of_pos _ (by omega)),rfl⟩
      | exact ⟨_,rfl,Int.tmod_nonneg _ z0,Or.inl (Int.tmod_lt_of_pos _ (by omega)),rfl⟩
end Go.Proofs.YtbgoldeopmlbnaaGreatDoor
namespace Go.Proofs.YtbgoldeopmlbnaaGreatDoor
open Go.RowKit G MCrc
set_option linter.unusedVariables false
end Go.Proofs.YtbgoldeopmlbnaaGreatDoor
namespace Go.Proofs.YtbgoldeopmlbnaaGreatDoor
open Go.RowKit G
set_option linter.unusedVariables false
end Go.Proofs.YtbgoldeopmlbnaaGreatDoor
namespace Go.Proofs.YtbgoldeopmlbnaaGreatDoor
open Go.RowKit Go.PlainAid G MGF IRow
set_option linter.unusedVariables false
theorem SrcC.grown {w w' : World} {p cb co sl sc : Nat} {sa : Option Addr} {row : Option Nat} {B : Nat} (h : SrcC w p cb co sl sc sa) (hp : p < B) (hcb : 0 < sl -> cb < B) (hg : w.grownBy w' row) (hr : ∀ k,row = some k -> B <= k) : SrcC w' p cb co sl sc sa :=
 h.kept (hg.block p h.lt (fun e => by have:=hr p e.symm;omega)) (fun hs => hg.block cb (h.code hs) (fun e => by have:=hr cb e.symm;have:=hcb hs;omega))
theorem SrcC.below {w w' : World} {p cb co sl sc : Nat} {sa : Option Addr} (h : SrcC w p cb co sl sc sa) (hb : Below w.heap.size w w') : SrcC w' p cb co sl sc sa :=
 h.kept (hb.block p h.lt) (fun hs => hb.block cb (h.code hs))
theorem grown_belowD {w wr w' : World} {p : Nat} (h : w.grownBy wr (some p)) (k : Below wr.heap.size wr w') : w.grownBy w' (some p) :=
 grown_own h (row:=none) ⟨k.os,k.tape,k.output,k.size,fun i hi _ => k.block i hi⟩ (fun g hg => by cases hg)
theorem own_drawn {w w' : World} {B p : Nat} {e : TypeId} {size : Nat} {v : Value} {n : Nat} {xs : List Value} (h : w.ownsRow B e size v n xs) (hg : w.grownBy w' (some p)) (hp : p < B) : w'.ownsRow B e size v n xs :=
 h.kept hg (Or.inr (fun e => by have:=(h.lt p e).1;omega))
structure DrawnC (w w' : World) (p cb co sl sc : Nat) (sa : Option Addr) : Prop where
 src : SrcC w' p cb co sl sc sa
 gr : w.grownBy w' (some p)
theorem DrawnC.drawn {w w' : World} {p cb co sl sc : Nat} {sa : Option Addr} (h : DrawnC w w' p cb co sl sc sa) : Drawn w w' p:=⟨⟨cb,co,sl,sc,sa,h.src⟩,h.gr⟩
theorem one_c (p cb co sl sc : Nat) (sa : Option Addr) (most : Int) (w : World) (hS : SrcC w p cb co sl sc sa) (hm : most <= 9223372036854775807) :
 Calls Tryz.prog 30 #[.pointer (some ⟨p,0,none⟩),.int .i64 most] w fun e w' => ∃ b : Bool,e = .returned (.bool b) /\ DrawnC w w' p cb co sl sc sa /\ w'.heap.size = w.heap.size:=by
 go_enter Tryz.func30,Tryz.ntmps30
 go_wp2_with fail
 refine (n_c p cb co sl sc sa most w hS hm).mono ?_
 rintro e w1 ⟨r,rfl,r0,r1,hS1,hg,hz⟩
 have HP:=qH (⟨⟨hS1,hg⟩,hz⟩ : DrawnC w w1 p cb co sl sc sa /\ w1.heap.size = w.heap.size)
 clear r1 hS1 hg hz
 go_wp2_with fail
 go_ret
 exact ⟨_,rfl,HP.out.1,HP.out.2⟩
end Go.Proofs.YtbgoldeopmlbnaaGreatDoor
namespace Go.Proofs.YtbgoldeopmlbnaaGreatDoor
open Go.RowKit Go.PlainAid G MGF IRow
set_option linter.unusedVariables false
end Go.Proofs.YtbgoldeopmlbnaaGreatDoor
namespace Go.Proofs.YtbgoldeopmlbnaaGreatDoor
open Go.RowKit Go.PlainAid G MGF IRow
set_option linter.unusedVariables false
end Go.Proofs.YtbgoldeopmlbnaaGreatDoor
