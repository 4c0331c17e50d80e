/- Used by the law. -/
import Derived.WalkKit
import Derived.Laws.BytesArg
import Derived.Lib.SmallJoins
import Derived.Lib.BufferWrite
import Derived.Laws.CopyOwn
import Derived.Laws.OwnMore
import Derived.Deep.AppendLies
import Derived.OwnWalk
import Derived.Laws.AppendOwnNone
import Derived.Lib.Hide
import Derived.PlainAid
import Derived.KernelRfl
import Derived.Test.YthkbcjnbmciolaaGreatDoorChecked
import Derived.ProofKit
import Derived.LoopTactic
set_option maxRecDepth 100000
set_option maxHeartbeats 16000000
namespace Go.Proofs.YthkbcjnbmciolaaGreatDoor.G
end Go.Proofs.YthkbcjnbmciolaaGreatDoor.G
namespace Go.Proofs.YthkbcjnbmciolaaGreatDoor.IRow
end Go.Proofs.YthkbcjnbmciolaaGreatDoor.IRow
namespace Go.Proofs.YthkbcjnbmciolaaGreatDoor.MGF
end Go.Proofs.YthkbcjnbmciolaaGreatDoor.MGF
namespace Go.Proofs.YthkbcjnbmciolaaGreatDoor
end Go.Proofs.YthkbcjnbmciolaaGreatDoor
namespace Go.Proofs.YthkbcjnbmciolaaGreatDoor.MCrc
end Go.Proofs.YthkbcjnbmciolaaGreatDoor.MCrc
namespace Go.Proofs.YthkbcjnbmciolaaGreatDoor.MJoin
end Go.Proofs.YthkbcjnbmciolaaGreatDoor.MJoin
namespace Go.Proofs.YthkbcjnbmciolaaGreatDoor.MNum
end Go.Proofs.YthkbcjnbmciolaaGreatDoor.MNum
namespace Go.Proofs.YthkbcjnbmciolaaGreatDoor.MGet
end Go.Proofs.YthkbcjnbmciolaaGreatDoor.MGet
namespace Go.Proofs.YthkbcjnbmciolaaGreatDoor.M2
end Go.Proofs.YthkbcjnbmciolaaGreatDoor.M2
namespace Go.Proofs.YthkbcjnbmciolaaGreatDoor.TillZ
end Go.Proofs.YthkbcjnbmciolaaGreatDoor.TillZ
namespace Go.Proofs.YthkbcjnbmciolaaGreatDoor.HeldZ
end Go.Proofs.YthkbcjnbmciolaaGreatDoor.HeldZ
namespace Go.Proofs.YthkbcjnbmciolaaGreatDoor.fnExactData
end Go.Proofs.YthkbcjnbmciolaaGreatDoor.fnExactData
namespace Go.Proofs.YthkbcjnbmciolaaGreatDoor
open Go
theorem pS (t : List Value) (ds : List Deferred) (d : Tmp) (v : Value) : Act.put ⟨t.toArray, ds⟩ (some d) v = ⟨(t.set d v).toArray, ds⟩ := by simp [Act.put]
theorem qH {p : Prop} (h : p) : RowKit.Hid p := Lib.hid h
theorem pN (a : Act) (v : Value) : Act.put a none v = a := rfl
theorem zT {α : Type} {xs : List α} {i : Nat} (h : i < xs.toArray.size) : xs.toArray[i] = xs[i]'(by simpa using h) := List.getElem_toArray h
theorem zZ {α : Type} {l : List α} {a : α} (h : 0 < (a :: l).length) : (a :: l)[0] = a := rfl
theorem zU {α : Type} (l : List α) (a : α) (i : Nat) (h : i + 1 < (a :: l).length) : (a :: l)[i + 1] = l[i]'(Nat.lt_of_succ_lt_succ h) := rfl
end Go.Proofs.YthkbcjnbmciolaaGreatDoor
namespace Go.Proofs.YthkbcjnbmciolaaGreatDoor.G
open Go.RowKit
theorem ret_bool {a b : Bool} (h : a = b) : Ending.returned (.bool a) = .returned (.bool b):=by rw [h]
theorem ret_int {k : IntKind} {a b : Int} (h : a = b) : Ending.returned (.int k a) = .returned (.int k b):=by rw [h]
theorem ret_string {a b : ByteArray} (h : a = b) : Ending.returned (.string a) = .returned (.string b):=by rw [h]
theorem bcell {W w1 : World} (hb : Below W.heap.size W w1) : (∀ b o,b < W.heap.size -> w1.cell? ⟨b,o,none⟩ = W.cell? ⟨b,o,none⟩) /\ (∀ b o,b < W.heap.size -> w1.frozen? ⟨b,o,none⟩ = W.frozen? ⟨b,o,none⟩) :=
 ⟨fun b o h => hb.cell (p:=⟨b,o,none⟩) h,fun b o h => hb.frozen (p:=⟨b,o,none⟩) h⟩
section
variable {P : Program} {w : World}
theorem conv_owned (src dst e : TypeId) (hs : P.underlying src = some (.slice e)) (he : P.underlying e = some (.int .u8)) (hd : P.underlying dst = some .string)
 (base : Nat) (v : Value) (n : Nat) (zs : List Int) (h : w.ownsRow base e 1 v n (zs.map (Value.int .u8))) :
 (convert src dst v).run P w = .ok (.string (strOfNums zs)) w:=by
 have hl : zs.length = n:=by have:=h.1;simpa using this
 rcases Joins.ownsRow_forms h with ⟨rfl,rfl⟩ | ⟨g,cap,rfl⟩
 · have : zs = []:=List.eq_nil_of_length_eq_zero hl
   subst this
   rw [run_convert_bytes_nil (P:=P) w src e hs he 0 0 dst hd]
   rfl
 · refine run_convert_bytes_arg (P:=P) w src e hs he g 0 n cap zs hl (fun i hi => ?_) dst hd
   have hc:=h.cells (g:=g) rfl i (.int .u8 (zs.getD i 0)) (by
    rw [List.getElem?_map,List.getElem?_eq_getElem (by omega)]
    simp [List.getD,List.getElem?_eq_getElem (show i < zs.length by omega)])
   have e1 : (⟨g,0,none⟩ : Addr).add i = ⟨g,0 + i,none⟩:=by unfold Addr.add;split <;> simp_all
   rw [<- e1];exact hc
theorem conv_block (src dst e t : TypeId) (hs : P.underlying src = some (.slice e)) (he : P.underlying e = some (.int .u8)) (hd : P.underlying dst = some .string)
 (g n cap : Nat) (zs : List Int) (fz : Nat × Nat) (hg : w.heap[g]? = some (.cells (zs.map (Value.int .u8)).toArray t fz)) (hn : zs.length = n) :
 (convert src dst (.slice (some ⟨g,0,none⟩) n cap)).run P w = .ok (.string (strOfNums zs)) w:=by
 refine run_convert_bytes_arg (P:=P) w src e hs he g 0 n cap zs hn (fun i hi => ?_) dst hd
 rw [Nat.zero_add,cell_of_row w g i _ _ _ hg]
 simp [List.getD,List.getElem?_eq_getElem (show i < zs.length by omega)]
theorem append_one {ops : Array Oper} {rest : List Oper} {o : Oper} {a : Act} {Q : Exit -> Act -> World -> Prop} (hgd : o.guard = none) (s x : Operand) (t : TypeId)
 (ho : o.op = .call { callee:=.builtin .append,args:=#[s,x],argTypes:=#[t,t] })
 (e : TypeId) (i : TypeInfo) (z : Value) (bytes : Nat) (ht : P.underlying t = some (.slice e)) (hi : P.info? e = some i) (hz : i.zero = some z)
 (hsize : i.size = 1) (hby : i.bytes = bytes) (hzs : z.cells.size = 1)
 (B : Nat) (W : World) (v : Value) (n : Nat) (xs : List Value) (hs : a.eval s = v) (hown : w.ownsRow B e 1 v n xs) (u : Value) (e' : TypeId) (hu : u.oneCell' = true)
 (hx : a.eval x = .slice (some ⟨w.heap.size,0,none⟩) 1 1) (hbel : Below B W w) (hB : B <= w.heap.size)
 (h63 : n + 1 <= maxLen) (hbytes : (n + 1) * bytes <= 140737488355328)
 (h : ∀ v' w',w'.ownsRow B e 1 v' (n + 1) (xs ++ [u]) -> Below B W w' -> wpList P ops Q rest (a.put o.dst v') w') : wpList P ops Q (o :: rest) a (w.alloc (.cells #[u] e')):=by
 refine wpList_append_own _ hgd s x t ho B e i z 1 bytes ht hi hz hsize hby hzs (by decide) v n xs hs (hown.alloc _) ⟨w.heap.size,0,none⟩ 1 1 [u] hx rfl ?_ ?_ h63 hbytes (by simp;omega) ?_
 · intro j y hj
   match j,hj with
   | 0,hj => simp at hj;subst hj;simp [Addr.add]
 · intro y hy;simp at hy;subst hy;exact hu
 · intro v' w' h1 h2 _
   exact h v' w' h1 ((hbel.alloc hB _).grown h2 (by simp;omega) (fun k hk => (hown.lt k hk).1))
def cutAt (b o k cap : Nat) : Option Addr:=some (if cap = k then ⟨b,o,none⟩ else ⟨b,o + k,none⟩)
theorem cutAt_lt {b o k cap : Nat} (h : k < cap) : cutAt b o k cap = some ⟨b,o + k,none⟩:=by unfold cutAt;rw [if_neg (by omega)]
theorem run_cut_from (W : World) (t e : TypeId) (ht : P.underlying t = some (.slice e)) (hz : ∀ w,(Go.sizeOf e).run P w = .ok 1 w) (b o len cap k : Nat) (hk : k <= len) :
 (Instr.slice t (.slice (some ⟨b,o,none⟩) len cap) (some (.int .i64 (k : Int))) none none).run P W = .ok (.slice (cutAt b o k cap) (len - k) (cap - k)) W:=by
 have ht' : P.underlying t = some (.slice (P.elem t)):=by simp [Program.elem,ht]
 have he : P.elem t = e:=by simp [Program.elem,ht]
 rw [run_slice_l W t _ _ _ ht' .i64 _ (by omega) (by omega),he,hz]
 unfold cutAt
 by_cases hc : cap = k
 · simp [Result.andThen,sliced,hc]
 · by_cases h0 : k = 0
   · subst h0
     simp [Result.andThen,sliced,Addr.add,hc]
   · simp [Result.andThen,sliced,Addr.add,hc,h0]
theorem run_cut_str (W : World) (t : TypeId) (h : P.underlying t = some .string) (s : ByteArray) (p n : Nat) (hpn : p + n <= s.size) :
 (Instr.slice t (.string s) (some (.int .i64 (p : Int))) (some (.int .i64 ((p : Int) + (n : Int)))) none).run P W = .ok (.string (s.extract p (p + n))) W:=by
 rw [run_slice_string W t s .i64 .i64 _ _ h (by omega) (by omega) (by omega)]
 have e : ((p : Int) + (n : Int)).toNat = p + n:=by omega
 rw [e]
 rfl
theorem size_cut (s : ByteArray) (p n : Nat) (hpn : p + n <= s.size) : (s.extract p (p + n)).size = n:=by simp [ByteArray.size_extract];omega
def spl (cur : Array Value) (off : Nat) (p : ByteArray) : Array Value:=(cur.toList.take off ++ (Lib.byteCells p.data.toList ++ cur.toList.drop (off + p.size))).toArray
theorem copy_str {ops : Array Oper} {rest : List Oper} {o : Oper} {a : Act} {Q : Exit -> Act -> World -> Prop} (hgd : o.guard = none) (d s : Operand) (dT sT : TypeId)
 (ho : o.op = .call { callee:=.builtin .copy,args:=#[d,s],argTypes:=#[dT,sT] }) (elem : TypeId) (hu : P.underlying dT = some (.slice elem)) (hsz : (P.info? elem).map (·.size) = some 1)
 (dp : Option Addr) (dLen dCap : Nat) (hd : a.eval d = .slice dp dLen dCap) (p : ByteArray) (hs : a.eval s = .string p)
 (g off : Nat) (cur : Array Value) (t : TypeId) (hg : w.heap[g]? = some (.cells cur t (0,0))) (hle : p.size <= dLen) (hpos : 0 < p.size -> dp = some ⟨g,off,none⟩) (hfit : off + p.size <= cur.size)
 (B : Nat) (W : World) (hb : Below B W w) (hBg : B <= g)
 (h : ∀ w',Hid (w'.heap[g]? = some (.cells (spl cur off p) t (0,0))) -> Below B W w' -> wpList P ops Q rest (a.put o.dst (.int .i64 (p.size : Int))) w') :
 wpList P ops Q (o :: rest) a w:=by
 refine wpList_plain hgd fun K hK => ?_
 by_cases h0 : p.size = 0
 · have hrun:=Lib.run_copy_empty_string (P:=P) w dT sT o.type elem dp dLen dCap p hu (by rw [hsz];rfl) h0
   unfold Oper.wp
   simp [execOp,ho,resolve,invoke,builtin,hd,hs,hrun,Result.andThen]
   have e : spl cur off p = cur:=by
    have e1 : p.data.toList = []:=List.eq_nil_of_length_eq_zero (by simpa using h0)
    simp [spl,e1,h0,Lib.byteCells]
   have:=hK _ _ (h w (show _ = _ by rw [e];exact hg) hb)
   rw [h0] at this
   exact this
 · obtain rfl:=hpos (by omega)
   have hrun:=Lib.run_copy_row_string (P:=P) w dT sT o.type elem g off dLen dCap p cur t hu hsz hg hle hfit
   unfold Oper.wp
   simp [execOp,ho,resolve,invoke,builtin,hd,hs,hrun,Result.andThen]
   exact hK _ _ (h (w.setRow g (spl cur off p)) (show _ = _ from setRow_heap w g cur (spl cur off p) t _ hg) (below_setRow hb hBg _))
end
end Go.Proofs.YthkbcjnbmciolaaGreatDoor.G
namespace Go.Proofs.YthkbcjnbmciolaaGreatDoor.IRow
open Go.RowKit
theorem grown_trans {a b c : World} {row : Option Nat} (h : a.grownBy b row) (k : b.grownBy c row) : a.grownBy c row :=
 ⟨k.os.trans h.os,k.tape.trans h.tape,k.output.trans h.output,Nat.le_trans h.size k.size,fun i hi hp => (k.block i (Nat.lt_of_lt_of_le hi h.size) hp).trans (h.block i hi hp)⟩
theorem own_shape {w : World} {base : Nat} {e : TypeId} {size : Nat} {v : Value} {n : Nat} {xs : List Value} (h : w.ownsRow base e size v n xs) : ∃ a c,v = .slice a n c:=by
 rcases h.2 with ⟨rfl,rfl⟩ | ⟨g,c,cur,rfl,_⟩
 · exact ⟨_,_,rfl⟩
 · exact ⟨_,_,rfl⟩
theorem own_mono {w : World} {base base' : Nat} {e : TypeId} {size : Nat} {v : Value} {n : Nat} {xs : List Value} (h : w.ownsRow base e size v n xs) (hb : base' <= base) : w.ownsRow base' e size v n xs:=by
 refine ⟨h.1,?_⟩
 rcases h.2 with hn | ⟨g,c,cur,hv,hg,rest⟩
 · exact .inl hn
 · exact .inr ⟨g,c,cur,hv,Nat.le_trans hb hg,rest⟩
theorem own_below {w w' : World} {base : Nat} {e : TypeId} {size : Nat} {v : Value} {n : Nat} {xs : List Value} (h : w.ownsRow base e size v n xs) (hb : Below w.heap.size w w') : w'.ownsRow base e size v n xs :=
 h.kept (row:=.none) ⟨hb.os,hb.tape,hb.output,hb.size,fun k hk _ => hb.block k hk⟩ (by cases hv : v.ownBlock <;> simp)
theorem own_other {w : World} {base : Nat} {e : TypeId} {size : Nat} {v : Value} {n : Nat} {xs : List Value} (h : w.ownsRow base e size v n xs) {b : Nat} (hne : ∀ g,v.ownBlock = some g -> g ≠ b) (p : Addr) (u : Value) (hp : p.block = b) : (w.setCell p u).ownsRow base e size v n xs:=by
 refine h.kept (row:=some b) ⟨rfl,rfl,rfl,by simp,fun k _ hk => heap_setCell_other w p k u (fun e => hk (by rw [e,hp]))⟩ ?_
 cases hv : v.ownBlock with
 | none => exact .inl rfl
 | some g => exact .inr (fun h2 => by have:=hne g hv;simp only [Option.some.injEq] at h2;exact this h2)
def Disj (v u : Value) : Prop:=∀ g,v.ownBlock = some g -> u.ownBlock ≠ some g
theorem Disj.symm {v u : Value} (h : Disj v u) : Disj u v:=fun g hg h2 => h g h2 hg
theorem own_disj {w w' : World} {base : Nat} {e e' : TypeId} {size size' : Nat} {v u : Value} {n m : Nat} {xs ys : List Value} (h : w.ownsRow base e size v n xs) (k : w'.ownsRow w.heap.size e' size' u m ys) : Disj v u :=
 fun g hg h2 => by have:=(h.lt g hg).2;have:=(k.lt g h2).1;omega
theorem own_grown {w w' : World} {base : Nat} {e : TypeId} {size : Nat} {v u : Value} {n : Nat} {xs : List Value} (h : w.ownsRow base e size v n xs) (hg : w.grownBy w' u.ownBlock) (hd : Disj v u) : w'.ownsRow base e size v n xs:=by
 refine h.kept hg ?_
 cases hv : v.ownBlock with
 | none => exact .inl rfl
 | some g => exact .inr (fun h2 => hd g hv h2.symm)
theorem below_grow {B : Nat} {a w w' : World} {base : Nat} {e : TypeId} {size : Nat} {v : Value} {n : Nat} {xs : List Value} (h : Below B a w) (ho : w.ownsRow base e size v n xs) (hb : B <= base) (hg : w.grownBy w' v.ownBlock) (hB : B <= w.heap.size) : Below B a w' :=
 h.grown hg hB (fun k hk => Nat.le_trans hb (ho.lt k hk).1)
end Go.Proofs.YthkbcjnbmciolaaGreatDoor.IRow
namespace Go.Proofs.YthkbcjnbmciolaaGreatDoor.MGF
def byteB (n : Int) : Bool:=decide (0 <= n /\ n <= 255)
end Go.Proofs.YthkbcjnbmciolaaGreatDoor.MGF
namespace Go.Proofs.YthkbcjnbmciolaaGreatDoor.IRow
open Go.RowKit
end Go.Proofs.YthkbcjnbmciolaaGreatDoor.IRow
namespace Go.Proofs.YthkbcjnbmciolaaGreatDoor.MGF
theorem getD_mem {α : Type} {l : List α} {i : Nat} (d : α) (h : i < l.length) : l.getD i d = l[i]:=by simp [List.getD,h]
def okX (z : Int) : Bool:=decide (1 <= z /\ z <= 255)
end Go.Proofs.YthkbcjnbmciolaaGreatDoor.MGF
namespace Go.Proofs.YthkbcjnbmciolaaGreatDoor.MGF
open Go.RowKit
def okPart (p : Int × ByteArray) : Bool:=okX p.1 && decide (1 <= p.2.size /\ p.2.size <= 16)
def partsB (l : List (Int × ByteArray)) : Bool:=decide (1 <= l.length /\ l.length <= 20) && l.all okPart
def placeB (l : List (Int × ByteArray)) : Bool:=decide (l.map Prod.fst).Nodup
def sizeB (l : List (Int × ByteArray)) : Bool:=l.all fun p => decide (p.2.size = (l.getD 0 (0,ByteArray.empty)).2.size)
def partsCode (l : List (Int × ByteArray)) : Int:=if 400 < l.length then 2 else if partsB l = false then 1 else if placeB l = false then 7 else if sizeB l = false then 10 else 0
end Go.Proofs.YthkbcjnbmciolaaGreatDoor.MGF
namespace Go.Proofs.YthkbcjnbmciolaaGreatDoor.MGF
def secB (t : ByteArray) : Bool:=decide (1 <= t.size /\ t.size <= 16)
def needB (need : Int) : Bool:=decide (1 <= need /\ need <= 10)
def manyB (need many : Int) : Bool:=needB need && decide (need <= many /\ many <= 20)
theorem secB_iff {t : ByteArray} : secB t = true ↔ 1 <= t.size /\ t.size <= 16:=by unfold secB;exact decide_eq_true_iff
end Go.Proofs.YthkbcjnbmciolaaGreatDoor.MGF
namespace Go.Proofs.YthkbcjnbmciolaaGreatDoor
theorem infoU8 : (Tryz.prog.info? 5).map (fun i => (i.zero,i.size,i.bytes)) = some (some (.int .u8 0),1,1):=by kernel_rfl
theorem sizeU8 : (Tryz.prog.info? 5).map (·.size) = some 1:=by kernel_rfl
theorem sizeOfU8 (w : World) : (Go.sizeOf 5).run Tryz.prog w = .ok 1 w:=by kernel_rfl
end Go.Proofs.YthkbcjnbmciolaaGreatDoor
