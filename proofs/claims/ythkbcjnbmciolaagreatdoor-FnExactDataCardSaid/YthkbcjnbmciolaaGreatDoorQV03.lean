/- Used by the law. -/
import Derived.Deep.RegionHeld3
import Derived.StillTailTactics
import Derived.Maps.AppendAt
import Derived.Test.YthkbcjnbmciolaaGreatDoorQV02
set_option maxRecDepth 100000
set_option maxHeartbeats 16000000
namespace Go.Proofs.YthkbcjnbmciolaaGreatDoor
open Go.RowKit Go.PlainAid G IRow MGF
set_option linter.unusedVariables false
theorem fg_below {w w' : World} {row : Option Nat} (hb : Below w.heap.size w w') : w.grownBy w' row:=⟨hb.os,hb.tape,hb.output,hb.size,fun k hk _ => hb.block k hk⟩
theorem below_of_none {w w' : World} (h : w.grownBy w' none) : Below w.heap.size w w':=⟨h.os,h.tape,h.output,h.size,fun k hk => h.block k hk (by simp)⟩
end Go.Proofs.YthkbcjnbmciolaaGreatDoor
namespace Go.Proofs.YthkbcjnbmciolaaGreatDoor
open Go.RowKit Go.PlainAid G IRow MGF
set_option linter.unusedVariables false
end Go.Proofs.YthkbcjnbmciolaaGreatDoor
namespace Go.Proofs.YthkbcjnbmciolaaGreatDoor
open Go.RowKit Go.PlainAid G IRow MGF
set_option linter.unusedVariables false
end Go.Proofs.YthkbcjnbmciolaaGreatDoor
namespace Go.Proofs.YthkbcjnbmciolaaGreatDoor
open Go.RowKit Go.PlainAid G IRow MGF
set_option linter.unusedVariables false
end Go.Proofs.YthkbcjnbmciolaaGreatDoor
namespace Go.Proofs.YthkbcjnbmciolaaGreatDoor
open Go.RowKit Go.PlainAid G IRow MGF
set_option linter.unusedVariables false
end Go.Proofs.YthkbcjnbmciolaaGreatDoor
namespace Go.Proofs.YthkbcjnbmciolaaGreatDoor.IRow
open Go.RowKit
structure Enc (α : Type) where
 k : Nat
 cells : α -> List Value
 len : ∀ x,(cells x).length = k
 one : ∀ x,∀ v ∈ cells x,v.oneCell' = true
def Enc.flat {α : Type} (E : Enc α) : List α -> List Value
 | [] => []
 | p :: ps => E.cells p ++ E.flat ps
theorem Enc.flat_length {α : Type} (E : Enc α) (ps : List α) : (E.flat ps).length = ps.length * E.k:=by
 induction ps with
 | nil => simp [Enc.flat]
 | cons p ps ih => simp only [Enc.flat,List.length_append,List.length_cons,ih,E.len,Nat.succ_mul];omega
theorem Enc.flat_snoc {α : Type} (E : Enc α) (ps : List α) (p : α) : E.flat (ps ++ [p]) = E.flat ps ++ E.cells p:=by
 induction ps with
 | nil => simp [Enc.flat]
 | cons q ps ih => simp only [List.cons_append,Enc.flat,ih,List.append_assoc]
theorem Enc.flat_append {α : Type} (E : Enc α) (ps qs : List α) : E.flat (ps ++ qs) = E.flat ps ++ E.flat qs:=by
 induction ps with
 | nil => rfl
 | cons q ps ih => simp only [List.cons_append,Enc.flat,ih,List.append_assoc]
theorem Enc.flat_at {α : Type} (E : Enc α) (d : α) (ps : List α) : ∀ i j,i < ps.length -> j < E.k -> (E.flat ps)[i * E.k + j]? = (E.cells (ps.getD i d))[j]?:=by
 induction ps with
 | nil => intro i j h;simp at h
 | cons p ps ih =>
  intro i j h hj
  have hl:=E.len p
  cases i with
  | zero => simp only [Enc.flat,Nat.zero_mul,Nat.zero_add,List.getD_cons_zero];rw [List.getElem?_append_left (by omega)]
  | succ i =>
   have:=ih i j (by simpa using h) hj
   simp only [Enc.flat,List.getD_cons_succ]
   rw [<- this,List.getElem?_append_right (by rw [Nat.succ_mul];omega)]
   congr 1
   rw [Nat.succ_mul]
   omega
structure SR {α : Type} (E : Enc α) (d : α) (w : World) (a : Option Addr) (n cap : Nat) (ps : List α) : Prop where
 len : ps.length = n
 le : n <= cap
 nil : a = none -> cap = 0
 cells : 0 < n -> ∃ g o,a = some ⟨g,o,none⟩ /\ g < w.heap.size /\ ∀ i,i < n -> ∀ j v,(E.cells (ps.getD i d))[j]? = some v -> w.cell? ⟨g,o + i * E.k + j,none⟩ = some v
theorem SR.none {α : Type} (E : Enc α) (d : α) (w : World) : SR E d w none 0 0 []:=⟨rfl,Nat.le_refl _,fun _ => rfl,fun h => absurd h (Nat.lt_irrefl 0)⟩
theorem SR.grown {α : Type} {E : Enc α} {d : α} {w w' : World} {row : Option Nat} {a : Option Addr} {n cap : Nat} {ps : List α} (h : SR E d w a n cap ps) (hg : w.grownBy w' row) (hne : 0 < n -> ∀ g o,a = some ⟨g,o,.none⟩ -> some g ≠ row) : SR E d w' a n cap ps:=by
 refine ⟨h.len,h.le,h.nil,fun hn => ?_⟩
 obtain ⟨g,o,ha,hgl,hc⟩:=h.cells hn
 exact ⟨g,o,ha,Nat.lt_of_lt_of_le hgl hg.size,fun i hi j v hj => hg.cell (hc i hi j v hj) (hne hn g o ha)⟩
theorem SR.below {α : Type} {E : Enc α} {d : α} {w w' : World} {a : Option Addr} {n cap : Nat} {ps : List α} (h : SR E d w a n cap ps) (hb : Below w.heap.size w w') : SR E d w' a n cap ps :=
 h.grown (row:=.none) ⟨hb.os,hb.tape,hb.output,hb.size,fun k hk _ => hb.block k hk⟩ (fun _ g o _ => by simp)
theorem SR.own {α : Type} {E : Enc α} {d : α} {w : World} {base n cap : Nat} {a : Option Addr} {e : TypeId} {ps : List α} (hk : 0 < E.k) (h : w.ownsRow base e E.k (.slice a n cap) n (E.flat ps)) : SR E d w a n cap ps:=by
 have hl : ps.length = n:=by have:=h.1;rw [E.flat_length] at this;exact Nat.eq_of_mul_eq_mul_right hk this
 have hle : n <= cap /\ (a = .none -> cap = 0):=by
  rcases h.2 with ⟨hv,h0⟩ | ⟨g,c,cur,hv,_,_,hnc,_⟩
  · simp only [Value.slice.injEq] at hv
    obtain ⟨rfl,rfl,rfl⟩:=hv
    exact ⟨Nat.le_refl _,fun _ => rfl⟩
  · simp only [Value.slice.injEq] at hv
    obtain ⟨rfl,_,rfl⟩:=hv
    exact ⟨hnc,fun h => by cases h⟩
 refine ⟨hl,hle.1,hle.2,fun hn => ?_⟩
 obtain ⟨g,cap',hv,hb,hg⟩:=h.form hn
 simp only [Value.slice.injEq] at hv
 obtain ⟨rfl,_,rfl⟩:=hv
 refine ⟨g,0,rfl,hg,fun i hi j v hj => ?_⟩
 have hjk : j < E.k:=by
  by_cases hj2 : j < E.k
  · exact hj2
  · rw [List.getElem?_eq_none (by rw [E.len];omega)] at hj;cases hj
 have hlt : i * E.k + j < n * E.k:=by
  have : i * E.k + E.k <= n * E.k:=by rw [<- Nat.succ_mul];exact Nat.mul_le_mul_right _ hi
  omega
 rw [Nat.zero_add,h.cellAt (i * E.k + j) (by omega),E.flat_at d ps i j (by omega) hjk,hj]
theorem SR.take {α : Type} {E : Enc α} {d : α} {w : World} {a : Option Addr} {n cap k : Nat} {ps : List α} (h : SR E d w a n cap ps) (hk : k <= n) : SR E d w a k cap (ps.take k):=by
 have hl:=h.len
 refine ⟨by rw [List.length_take];omega,by have:=h.le;omega,h.nil,fun hn => ?_⟩
 obtain ⟨g,o,ha,hg,hc⟩:=h.cells (by omega)
 refine ⟨g,o,ha,hg,fun i hi j v hj => hc i (by omega) j v ?_⟩
 rw [<- hj]
 simp [List.getD,hi]
theorem SR.drop {α : Type} {E : Enc α} {d : α} {w : World} {g o n cap k : Nat} {ps : List α} (h : SR E d w (some ⟨g,o,.none⟩) n cap ps) (hk : k < n) : SR E d w (some ⟨g,o + k * E.k,.none⟩) (n - k) (cap - k) (ps.drop k):=by
 have hl:=h.len
 have hle:=h.le
 refine ⟨by rw [List.length_drop];omega,by omega,(fun e => by cases e),fun hn => ?_⟩
 obtain ⟨g',o',ha,hg,hc⟩:=h.cells (by omega)
 simp only [Option.some.injEq,Addr.mk.injEq,and_true] at ha
 obtain ⟨rfl,rfl⟩:=ha
 refine ⟨g,o + k * E.k,rfl,hg,fun i hi j v hj => ?_⟩
 have:=hc (k + i) (by omega) j v (by rw [<- hj];simp [List.getD])
 rw [Nat.add_mul] at this
 rw [show o + k * E.k + i * E.k + j = o + (k * E.k + i * E.k) + j by omega]
 exact this
theorem SR.news {α : Type} {E : Enc α} {d : α} {w : World} {a : Option Addr} {n cap : Nat} {ps : List α} (h : SR E d w a n cap ps) : ∀ ad,a = some ad -> ∀ j u,(E.flat ps)[j]? = some u -> w.cell? (ad.add j) = some u:=by
 intro ad ha j u hu
 have hl:=h.len
 have hj : j < (E.flat ps).length:=by
  by_cases hj : j < (E.flat ps).length
  · exact hj
  · rw [List.getElem?_eq_none (by omega)] at hu;cases hu
 rw [E.flat_length] at hj
 have hk : 0 < E.k:=by
  rcases Nat.eq_zero_or_pos E.k with h0 | h0
  · rw [h0] at hj;omega
  · exact h0
 have hn : 0 < n:=by
  rcases Nat.eq_zero_or_pos n with h0 | h0
  · rw [hl,h0] at hj;omega
  · exact h0
 obtain ⟨g,o,ha',hg,hc⟩:=h.cells hn
 rw [ha] at ha'
 cases ha'
 have e1 : (⟨g,o,.none⟩ : Addr).add j = ⟨g,o + j,.none⟩:=by unfold Addr.add;split <;> simp_all
 have hd : j / E.k < ps.length:=Nat.div_lt_of_lt_mul (by rw [Nat.mul_comm];exact hj)
 have hm:=Nat.mod_lt j hk
 have hj2 : j / E.k * E.k + j % E.k = j:=Nat.div_add_mod' j E.k
 have:=E.flat_at d ps (j / E.k) (j % E.k) hd hm
 rw [hj2,hu] at this
 have h2:=hc (j / E.k) (by omega) (j % E.k) u this.symm
 rw [e1]
 rw [Nat.add_assoc,hj2] at h2
 exact h2
theorem Enc.flat_one {α : Type} (E : Enc α) (ps : List α) : ∀ v ∈ E.flat ps,v.oneCell' = true:=by
 induction ps with
 | nil => intro v hv;simp [Enc.flat] at hv
 | cons p ps ih =>
  intro v hv
  simp only [Enc.flat,List.mem_append] at hv
  exact hv.elim (E.one p v) (ih v)
theorem append_enc {α : Type} (E : Enc α) {P : Program} {w : World} {ops : Array Oper} {rest : List Oper} {o : Oper} {a : Act} {Q : Exit -> Act -> World -> Prop} (hgd : o.guard = none) (s x : Operand) (t : TypeId)
 (ho : o.op = .call { callee:=.builtin .append,args:=#[s,x],argTypes:=#[t,t] })
 (e : TypeId) (i : TypeInfo) (z : Value) (bytes : Nat) (ht : P.underlying t = some (.slice e)) (hi : P.info? e = some i) (hz : i.zero = some z) (hsize : i.size = E.k) (hby : i.bytes = bytes) (hzs : z.cells.size = E.k) (hk : 0 < E.k) (hbb : bytes <= 1024)
 (B : Nat) (v : Value) (n : Nat) (ps : List α) (hs : a.eval s = v) (hown : w.ownsRow B e E.k v n (E.flat ps)) (p : α) (cs : Array Value) (hcs : cs = (E.cells p).toArray) (e' : TypeId)
 (hx : a.eval x = .slice (some ⟨w.heap.size,0,none⟩) 1 1) (hB : B <= w.heap.size) (hn : n <= 1048576)
 (h : ∀ v' w',w'.ownsRow B e E.k v' (n + 1) (E.flat (ps ++ [p])) -> w.grownBy w' v.ownBlock -> (v'.ownBlock = v.ownBlock ∨ ∃ g,v'.ownBlock = some g /\ w.heap.size <= g) -> wpList P ops Q rest (a.put o.dst v') w') : wpList P ops Q (o :: rest) a (w.alloc (.cells cs e')):=by
 subst hcs
 refine wpList_append_own_at _ hgd s x t ho B e i z E.k bytes ht hi hz hsize hby hzs hk v n (E.flat ps) hs (hown.alloc _) ⟨w.heap.size,0,none⟩ 1 1 (E.cells p) hx (by rw [E.len,Nat.one_mul]) ?_ (E.one p) (by unfold maxLen;omega) ?_ (by simp;omega) ?_
 · intro j z hj
   have hjl : j < (E.cells p).length:=by
    by_cases h2 : j < (E.cells p).length
    · exact h2
    · rw [List.getElem?_eq_none (by omega)] at hj;cases hj
   have e1 : (⟨w.heap.size,0,none⟩ : Addr).add j = ⟨w.heap.size,0 + j,none⟩:=by unfold Addr.add;split <;> simp_all
   rw [e1,Nat.zero_add]
   have:=World.cell?_alloc_new w (E.cells p).toArray e' j
   rw [this]
   simpa using hj
 · have : (n + 1) * bytes <= 1048577 * 1024:=Nat.mul_le_mul (by omega) hbb
   omega
 · intro v' w' h1 h2 _ h3
   rw [<- E.flat_snoc] at h1
   refine h v' w' h1 (grown_trans (World.grownBy_alloc w _ _) h2) ?_
   rcases h3 with h3 | h3
   · exact .inl h3
   · exact .inr ⟨_,h3,by simp⟩
end Go.Proofs.YthkbcjnbmciolaaGreatDoor.IRow
namespace Go.Proofs.YthkbcjnbmciolaaGreatDoor
open Go.RowKit G MGF IRow
set_option linter.unusedVariables false
def shE : Enc (Int × ByteArray):=⟨2,fun p => [.int .i64 p.1,.string p.2],fun _ => rfl,by intro x v hv;simp at hv;rcases hv with rfl | rfl <;> rfl⟩
def shD : Int × ByteArray:=(0,ByteArray.empty)
abbrev HR (w : World) (a : Option Addr) (n cap : Nat) (l : List (Int × ByteArray)) : Prop:=SR shE shD w a n cap l
theorem HR.at {w : World} {a : Option Addr} {n cap : Nat} {l : List (Int × ByteArray)} (h : HR w a n cap l) {i : Nat} (hi : i < n) : ∃ g o,a = some ⟨g,o,none⟩ /\ g < w.heap.size /\ w.cell? ⟨g,o + i * 2,none⟩ = some (.int .i64 (l.getD i shD).1) /\ w.cell? ⟨g,o + i * 2 + 1,none⟩ = some (.string (l.getD i shD).2):=by
 obtain ⟨g,o,ha,hg,hc⟩:=h.cells (by omega)
 exact ⟨g,o,ha,hg,hc i hi 0 _ rfl,hc i hi 1 _ rfl⟩
theorem infoShare : (Tryz.prog.info? 194).map (fun i => (i.zero,i.size,i.bytes)) = some (some (.agg #[.int .i64 0,.string ByteArray.empty]),2,24):=by kernel_rfl
end Go.Proofs.YthkbcjnbmciolaaGreatDoor
namespace Go.Proofs.YthkbcjnbmciolaaGreatDoor
open Go.RowKit Go.PlainAid G MGF IRow
set_option linter.unusedVariables false
theorem take_getDS {zs : List (Int × ByteArray)} {j : Nat} (h : j < zs.length) : zs.take (j + 1) = zs.take j ++ [zs.getD j shD]:=by
 have e2 : zs.getD j shD = zs[j]:=by simp [List.getD,List.getElem?_eq_getElem h]
 rw [e2]
 exact (List.take_append_getElem h).symm
def mkd : Nat -> Nat -> ByteArray -> ByteArray
 | 0,_,out => out
 | f + 1,k,out => if k = 0 then out else mkd f (k / 10) (strOfNums [48 + ((k % 10 : Nat) : Int)] ++ out)
theorem mkd_zero : ∀ (f : Nat) (out : ByteArray),mkd f 0 out = out
 | 0,_ => rfl
 | f + 1,_ => by unfold mkd;rw [if_pos rfl]
theorem mkd_succ {f k : Nat} (out : ByteArray) (h : k ≠ 0) : mkd (f + 1) k out = mkd f (k / 10) (strOfNums [48 + ((k % 10 : Nat) : Int)] ++ out):=by rw [mkd,if_neg h]
def mkt (k : Nat) : ByteArray:=⟨#[109]⟩ ++ mkd 64 k ByteArray.empty
theorem markText_any (k : Nat) (w : World) (hk : 0 < k) (hk1 : k < 9223372036854775808) :
 Calls Tryz.prog 37 #[.int .i64 (k : Int)] w fun e w' => e = .returned (.string (mkt k)) /\ Below w.heap.size w w':=by
 have hk0 : decide (k = 0) = false:=decide_eq_false (by omega)
 go_enter Tryz.func37,Tryz.ntmps37
 go_wp2_with fail
 go_loopw [0,3] (fun i v wr => ∃ (f j : Nat) (out : ByteArray),i = .int .i64 (j : Int) /\ v = .string out /\ Hid (mkd f j out = mkd 64 k ByteArray.empty) /\ Hid (j < 2 ^ f) /\ out.size + f = 64 /\ j <= k /\ Below w.heap.size w wr) (fun i _ _ => (intOf i).toNat)
 case atStart => exact ⟨64,k,ByteArray.empty,rfl,rfl,qH rfl,qH (by omega),rfl,Nat.le_refl _,Below.refl _ _⟩
 case round =>
  obtain ⟨f,j,out,rfl,rfl,HM,HF,hsf,hjk,hbw⟩:=hrel
  by_cases h0 : j = 0
  · subst h0
    have HS : Hid (mkt k = ⟨#[109]⟩ ++ out):=qH (by unfold mkt;rw [<- HM.out,mkd_zero])
    have HB:=qH hbw
    have hs1 : (⟨#[109]⟩ : ByteArray).size = 1:=rfl
    have hsm : ¬ 9223372036854775807 < (⟨#[109]⟩ : ByteArray).size + out.size:=by omega
    clear hbw
    go_wp2_with fail
    go_ret
    exact ⟨ret_string HS.out.symm,HB.out⟩
  · obtain ⟨f,rfl⟩ : ∃ f',f = f' + 1:=⟨f - 1,by
     have:=HF.out
     rcases Nat.eq_zero_or_pos f with h | h
     · subst h;omega
     · omega⟩
    have HN : Hid (mkd f (j / 10) (strOfNums [48 + ((j % 10 : Nat) : Int)] ++ out) = mkd 64 k ByteArray.empty):=qH (by rw [<- mkd_succ out h0];exact HM.out)
    have HF2 : Hid (j / 10 < 2 ^ f):=qH (by have:=HF.out;rw [Nat.pow_succ] at this;omega)
    have HB:=qH hbw
    have hp : 0 < j:=by omega
    obtain ⟨x,hx⟩ : ∃ x,x = j % 10:=⟨_,rfl⟩
    have hcv:=conv_block (P:=Tryz.prog) (w:=wr.alloc (.cells #[.int .u8 (48 + (x : Int))] 5)) 95 9 5 5 Tryz.underlying95 Tryz.underlying5 Tryz.underlying9 wr.heap.size 1 1 [48 + (x : Int)] (0,0) (by show (wr.heap.push _)[wr.heap.size]? = _;simp) rfl
    rw [<- hx] at HN
    have hmod : (j : Int).tmod 10 = (x : Int):=by rw [hx];first | rfl | exact (Int.ofNat_tmod j 10).symm
    have hdiv : (j : Int).tdiv 10 = ((j / 10 : Nat) : Int):=by first | rfl | exact (Int.ofNat_tdiv j 10).symm
    have hx9 : x <= 9:=by omega
    have hs1 : (strOfNums [48 + (x : Int)]).size = 1:=by rw [strOfNums_size];rfl
    have hsm : ¬ 9223372036854775807 < (strOfNums [48 + (x : Int)]).size + out.size:=by omega
    have HSA : Hid ((strOfNums [48 + (x : Int)] ++ out).size + f = 64):=qH (by rw [ByteArray.size_append,hs1];omega)
    have hle : j / 10 <= k:=by omega
    have hlt : j / 10 < j:=by omega
    have HX:=qH hx
    have HBA:=qH (hbw.alloc hbw.size (.cells #[.int .u8 (48 + (x : Int))] 5))
    clear hx hbw h0 hs1
    generalize strOfNums [48 + (x : Int)] = dg at *
    go_wp2_with fail
    go_roundw
    case rel => exact ⟨f,j / 10,_,by first | rfl | simp,rfl,HN,HF2,HSA.out,hle,HBA.out⟩
    case measure => simp [intOf];omega
end Go.Proofs.YthkbcjnbmciolaaGreatDoor
namespace Go.Proofs.YthkbcjnbmciolaaGreatDoor
open Go.RowKit Go.PlainAid G MGF IRow
set_option linter.unusedVariables false
theorem HR.own {w : World} {base n cap : Nat} {a : Option Addr} {e : TypeId} {l : List (Int × ByteArray)} (h : w.ownsRow base e shE.k (.slice a n cap) n (shE.flat l)) : HR w a n cap l:=SR.own (by decide) h
end Go.Proofs.YthkbcjnbmciolaaGreatDoor
namespace Go.Proofs.YthkbcjnbmciolaaGreatDoor
open Go.RowKit Go.PlainAid G MGF IRow
set_option linter.unusedVariables false
theorem flat_setX {α : Type} (E : Enc α) (d : α) (ps : List α) (i j : Nat) (v : Value) (p' : α) (hi : i < ps.length) (hj : j < E.k) (hc : (E.cells (ps.getD i d)).set j v = E.cells p') : (E.flat ps).set (i * E.k + j) v = E.flat (ps.set i p'):=by
 induction ps generalizing i with
 | nil => exact absurd hi (Nat.not_lt_zero _)
 | cons p ps ih =>
  cases i with
  | zero =>
   rw [List.getD_cons_zero] at hc
   simp only [Enc.flat,Nat.zero_mul,Nat.zero_add,List.set_cons_zero]
   rw [List.set_append_left _ _ (by rw [E.len];exact hj),hc]
  | succ i =>
   rw [List.getD_cons_succ] at hc
   have:=ih i (by simpa using hi) hc
   simp only [Enc.flat,List.set_cons_succ]
   rw [List.set_append_right _ _ (by rw [E.len,Nat.succ_mul];omega),E.len,<- this]
   congr 2
   rw [Nat.succ_mul];omega
structure BoxC (w : World) (h : Nat) (cs : List Value) : Prop where
 lt : h < w.heap.size
 cell : ∀ j v,cs[j]? = some v -> w.cell? ⟨h,j,none⟩ = some v
 free : ∀ j,w.frozen? ⟨h,j,none⟩ = false
theorem BoxC.made (w : World) (cs : Array Value) (e : TypeId) : BoxC (w.alloc (.cells cs e)) w.heap.size cs.toList:=by
 have hh : (w.alloc (.cells cs e)).heap[w.heap.size]? = some (.cells cs e (0,0)):=by show (w.heap.push _)[w.heap.size]? = _;simp
 refine ⟨by rw [World.size_alloc];omega,fun j v hv => ?_,fun j => ?_⟩
 · rw [cell_of_row _ _ j _ _ _ hh]
   simpa using hv
 · unfold World.frozen?
   simp only [hh]
   simp
theorem BoxC.below {w w' : World} {h : Nat} {cs : List Value} (b : BoxC w h cs) (hb : Below w.heap.size w w') : BoxC w' h cs :=
 ⟨Nat.lt_of_lt_of_le b.lt hb.size,fun j v hv => (hb.cell (p:=⟨h,j,none⟩) b.lt).trans (b.cell j v hv),fun j => (hb.frozen (p:=⟨h,j,none⟩) b.lt).trans (b.free j)⟩
theorem BoxC.alloc {w : World} {h : Nat} {cs : List Value} (b : BoxC w h cs) (o : Obj) : BoxC (w.alloc o) h cs:=b.below ((Below.refl _ _).alloc (Nat.le_refl _) _)
theorem BoxC.drew {w : World} {h : Nat} {cs : List Value} (b : BoxC w h cs) : BoxC w.drew h cs:=⟨b.lt,b.cell,b.free⟩
theorem BoxC.set {w : World} {h : Nat} {cs : List Value} (b : BoxC w h cs) {j : Nat} (hj : j < cs.length) (u : Value) : BoxC (w.setCell ⟨h,j,none⟩ u) h (cs.set j u):=by
 refine ⟨by rw [World.size_setCell];exact b.lt,fun i v hv => ?_,fun i => by rw [World.frozen?_setCell];exact b.free i⟩
 by_cases hij : j = i
 · subst hij
   rw [List.getElem?_set_self hj] at hv
   cases hv
   exact World.cell?_setCell_same _ _ _ (b.cell j _ (List.getElem?_eq_getElem hj))
 · rw [List.getElem?_set_ne hij] at hv
   rw [World.cell?_setCell_other _ _ _ _ (by intro h2;simp_all)]
   exact b.cell i v hv
theorem BoxC.other {w : World} {h : Nat} {cs : List Value} (b : BoxC w h cs) (p : Addr) (u : Value) (hp : p.block ≠ h) : BoxC (w.setCell p u) h cs:=by
 refine ⟨by rw [World.size_setCell];exact b.lt,fun i v hv => ?_,fun i => by rw [World.frozen?_setCell];exact b.free i⟩
 rw [World.cell?_setCell_other _ _ _ _ (by intro h2;apply hp;rw [h2])]
 exact b.cell i v hv
theorem BoxC.grown {w w' : World} {h : Nat} {cs : List Value} {row : Option Nat} (b : BoxC w h cs) (hg : w.grownBy w' row) (hr : some h ≠ row) : BoxC w' h cs:=by
 have hblk:=hg.block h b.lt hr
 refine ⟨Nat.lt_of_lt_of_le b.lt hg.size,fun j v hv => (World.cell?_of_block (a:=⟨h,j,none⟩) hblk).trans (b.cell j v hv),fun j => ?_⟩
 have:=b.free j
 unfold World.frozen? at this ⊢
 dsimp only at this ⊢
 rw [hblk]
 exact this
theorem run_append_rows {α : Type} (E : Enc α) (d : α) {P : Program} {w : World} {o : Oper} {a : Act} (s x : Operand) (t : TypeId)
 (ho : o.op = .call { callee:=.builtin .append,args:=#[s,x],argTypes:=#[t,t] })
 (e : TypeId) (i : TypeInfo) (z : Value) (bytes : Nat) (ht : P.underlying t = some (.slice e)) (hi : P.info? e = some i) (hz : i.zero = some z) (hsize : i.size = E.k) (hby : i.bytes = bytes) (hzs : z.cells.size = E.k) (hk : 0 < E.k) (hbb : bytes <= 1024)
 (B : Nat) (v : Value) (n : Nat) (ps : List α) (hs : a.eval s = v) (hown : w.ownsRow B e E.k v n (E.flat ps)) (ao : Option Addr) (m c : Nat) (qs : List α) (hx : a.eval x = .slice ao m c) (hr : SR E d w ao m c qs) (hB : B <= w.heap.size) (hn : n <= 1048576) (hm : m <= 1048576) :
 ∃ v' w',(execOp a.eval o).run P w = .ok (.value v') w' /\ w'.ownsRow B e E.k v' (n + m) (E.flat (ps ++ qs)) /\ w.grownBy w' v.ownBlock:=by
 cases ao with
 | none =>
  have hc:=hr.nil rfl
  have hm0 : m = 0:=by have:=hr.le;omega
  subst hc hm0
  have hq : qs = []:=List.eq_nil_of_length_eq_zero hr.len
  subst hq
  refine ⟨v,w,?_,by simpa using hown,World.grownBy.refl _ _⟩
  have h1:=run_append_owned_none (P:=P) (w:=w) (base:=B) t o.type e i E.k ht hi v n (E.flat ps) hown
  unfold execOp
  simp only [ho,resolve,invoke,builtin,Sem.run_bind,Sem.run_pure,Result.andThen_ok,List.map_toArray,List.map_cons,List.map_nil,hs,hx,h1]
 | some ad =>
  obtain ⟨v',w',h1,h2,h3,_⟩:=run_append_own (P:=P) w B t o.type e i z E.k bytes ht hi hz hsize hby hzs hk v n (E.flat ps) hown ad m c (E.flat qs) (by rw [E.flat_length,hr.len]) (hr.news ad rfl) (E.flat_one qs) (by unfold maxLen;omega)
   (by have : (n + m) * bytes <= 2097152 * 1024:=Nat.mul_le_mul (by omega) hbb;omega) hB
  refine ⟨v',w',?_,by rw [E.flat_append];exact h2,h3⟩
  unfold execOp
  simp only [ho,resolve,invoke,builtin,Sem.run_bind,Sem.run_pure,Result.andThen_ok,List.map_toArray,List.map_cons,List.map_nil,hs,hx,h1]
def mixX {α : Type} (zs ys : List α) (k : Nat) : List α:=zs.take k ++ ys.drop k
theorem mixX_zero {α : Type} (zs ys : List α) : mixX zs ys 0 = ys:=by simp [mixX]
theorem mixX_all {α : Type} {zs ys : List α} (h : ys.length = zs.length) : mixX zs ys zs.length = zs:=by unfold mixX;rw [List.take_length,List.drop_eq_nil_of_le (by omega),List.append_nil]
theorem mixX_length {α : Type} {zs ys : List α} (h : ys.length = zs.length) (k : Nat) : (mixX zs ys k).length = zs.length:=by simp [mixX];omega
theorem mixX_set {α : Type} (d : α) {zs ys : List α} {k : Nat} (h : ys.length = zs.length) (hk : k < zs.length) : (mixX zs ys k).set k (zs.getD k d) = mixX zs ys (k + 1):=by
 unfold mixX
 rw [List.set_append_right _ _ (by simp;omega)]
 have e1 : k - (zs.take k).length = 0:=by simp;omega
 rw [e1,List.drop_eq_getElem_cons (show k < ys.length by omega),List.set_cons_zero]
 have e2 : zs.getD k d = zs[k]:=by simp [List.getD,List.getElem?_eq_getElem hk]
 have e3 : zs.take (k + 1) = zs.take k ++ [zs[k]]:=(List.take_append_getElem hk).symm
 rw [e2,e3,List.append_assoc]
 rfl
theorem made_enc {α : Type} (E : Enc α) (d : α) (n : Nat) {z : Value} (hz : z.cells.toList = E.cells d) (hk : 0 < E.k) : (madeCells z.cells (n * E.k)).toList = E.flat (List.replicate n d):=by
 apply List.ext_getElem?
 intro i
 have hzl : z.cells.size = E.k:=by rw [<- Array.length_toList,hz,E.len]
 by_cases hi : i < n * E.k
 · have hd : i / E.k < (List.replicate n d).length:=by simp;exact Nat.div_lt_of_lt_mul (by rw [Nat.mul_comm];exact hi)
   have hs : i < (madeCells z.cells (n * E.k)).toList.length:=by simp [size_madeCells,hi]
   have hg : (List.replicate n d).getD (i / E.k) d = d:=by rw [getD_mem _ hd,List.getElem_replicate]
   have hm : i % E.k < E.k:=Nat.mod_lt _ hk
   have:=E.flat_at d (List.replicate n d) (i / E.k) (i % E.k) hd hm
   rw [show i / E.k * E.k + i % E.k = i by rw [Nat.mul_comm];exact Nat.div_add_mod i E.k,hg] at this
   rw [this,List.getElem?_eq_getElem hs,<- hz]
   simp [madeCells,hzl]
   rw [Array.getElem?_eq_getElem (show i % E.k < z.cells.size by omega)]
   exact congrArg some (getElem!_pos z.cells (i % E.k) (by omega))
 · rw [List.getElem?_eq_none (by simp [size_madeCells];omega),List.getElem?_eq_none (by rw [E.flat_length,List.length_replicate];omega)]
end Go.Proofs.YthkbcjnbmciolaaGreatDoor
