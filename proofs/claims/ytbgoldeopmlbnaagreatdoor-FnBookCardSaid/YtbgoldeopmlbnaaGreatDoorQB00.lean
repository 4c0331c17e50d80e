/- Used by the law. -/
import Derived.WalkKit
import Derived.Laws.BytesArg
import Derived.Lib.SmallJoins
import Derived.Lib.BufferWrite
import Derived.Laws.CopyOwn
import Derived.Laws.OwnMore
import Derived.Deep.AppendLies
import Derived.OwnWalk
import Derived.Laws.AppendOwnNone
import Derived.Lib.Hide
import Derived.Test.YtbgoldeopmlbnaaGreatDoorChecked
import Derived.ProofKit
import Derived.LoopTactic
import Derived.LaidEql
import Derived.Stop.Asserts
import Derived.RowKitTokens
import Derived.Lib.ReflectliteSlice
set_option maxRecDepth 100000
set_option maxHeartbeats 16000000
namespace Go.Proofs.YtbgoldeopmlbnaaGreatDoor.G
end Go.Proofs.YtbgoldeopmlbnaaGreatDoor.G
namespace Go.Proofs.YtbgoldeopmlbnaaGreatDoor.IRow
end Go.Proofs.YtbgoldeopmlbnaaGreatDoor.IRow
namespace Go.Proofs.YtbgoldeopmlbnaaGreatDoor
end Go.Proofs.YtbgoldeopmlbnaaGreatDoor
namespace Go.Proofs.YtbgoldeopmlbnaaGreatDoor.MGF
end Go.Proofs.YtbgoldeopmlbnaaGreatDoor.MGF
namespace Go.Proofs.YtbgoldeopmlbnaaGreatDoor.MCrc
end Go.Proofs.YtbgoldeopmlbnaaGreatDoor.MCrc
namespace Go.Proofs.YtbgoldeopmlbnaaGreatDoor.MJoin
end Go.Proofs.YtbgoldeopmlbnaaGreatDoor.MJoin
namespace Go.Proofs.YtbgoldeopmlbnaaGreatDoor.MNum
end Go.Proofs.YtbgoldeopmlbnaaGreatDoor.MNum
namespace Go.Proofs.YtbgoldeopmlbnaaGreatDoor.MGet
end Go.Proofs.YtbgoldeopmlbnaaGreatDoor.MGet
namespace Go.Proofs.YtbgoldeopmlbnaaGreatDoor.TillZ
end Go.Proofs.YtbgoldeopmlbnaaGreatDoor.TillZ
namespace Go.Proofs.YtbgoldeopmlbnaaGreatDoor.M2
end Go.Proofs.YtbgoldeopmlbnaaGreatDoor.M2
namespace Go.Proofs.YtbgoldeopmlbnaaGreatDoor.FreeW
end Go.Proofs.YtbgoldeopmlbnaaGreatDoor.FreeW
namespace Go.Proofs.YtbgoldeopmlbnaaGreatDoor.fnBook
end Go.Proofs.YtbgoldeopmlbnaaGreatDoor.fnBook
namespace Go.Proofs.YtbgoldeopmlbnaaGreatDoor
open Go
theorem pS (t : List Value) (ds : List Deferred) (d : Tmp) (v : Value) : Act.put ⟨t.toArray, ds⟩ (some d) v = ⟨(t.set d v).toArray, ds⟩ := by simp [Act.put]
theorem qH {p : Prop} (h : p) : RowKit.Hid p := Lib.hid h
theorem pN (a : Act) (v : Value) : Act.put a none v = a := rfl
theorem zT {α : Type} {xs : List α} {i : Nat} (h : i < xs.toArray.size) : xs.toArray[i] = xs[i]'(by simpa using h) := List.getElem_toArray h
theorem zZ {α : Type} {l : List α} {a : α} (h : 0 < (a :: l).length) : (a :: l)[0] = a := rfl
theorem zU {α : Type} (l : List α) (a : α) (i : Nat) (h : i + 1 < (a :: l).length) : (a :: l)[i + 1] = l[i]'(Nat.lt_of_succ_lt_succ h) := rfl
end Go.Proofs.YtbgoldeopmlbnaaGreatDoor
namespace Go.Proofs.YtbgoldeopmlbnaaGreatDoor.G
open Go.RowKit
theorem ret_bool {a b : Bool} (h : a = b) : Ending.returned (.bool a) = .returned (.bool b):=by rw [h]
theorem ret_int {k : IntKind} {a b : Int} (h : a = b) : Ending.returned (.int k a) = .returned (.int k b):=by rw [h]
theorem ret_string {a b : ByteArray} (h : a = b) : Ending.returned (.string a) = .returned (.string b):=by rw [h]
theorem bcell {W w1 : World} (hb : Below W.heap.size W w1) : (∀ b o,b < W.heap.size -> w1.cell? ⟨b,o,none⟩ = W.cell? ⟨b,o,none⟩) /\ (∀ b o,b < W.heap.size -> w1.frozen? ⟨b,o,none⟩ = W.frozen? ⟨b,o,none⟩) :=
 ⟨fun b o h => hb.cell (p:=⟨b,o,none⟩) h,fun b o h => hb.frozen (p:=⟨b,o,none⟩) h⟩
section
variable {P : Program} {w : World}
theorem conv_owned (src dst e : TypeId) (hs : P.underlying src = some (.slice e)) (he : P.underlying e = some (.int .u8)) (hd : P.underlying dst = some .string)
 (base : Nat) (v : Value) (n : Nat) (zs : List Int) (h : w.ownsRow base e 1 v n (zs.map (Value.int .u8))) :
 (convert src dst v).run P w = .ok (.string (strOfNums zs)) w:=by
 have hl : zs.length = n:=by have:=h.1;simpa using this
 rcases Joins.ownsRow_forms h with ⟨rfl,rfl⟩ | ⟨g,cap,rfl⟩
 · have : zs = []:=List.eq_nil_of_length_eq_zero hl
   subst this
   rw [run_convert_bytes_nil (P:=P) w src e hs he 0 0 dst hd]
   rfl
 · refine run_convert_bytes_arg (P:=P) w src e hs he g 0 n cap zs hl (fun i hi => ?_) dst hd
   have hc:=h.cells (g:=g) rfl i (.int .u8 (zs.getD i 0)) (by
    rw [List.getElem?_map,List.getElem?_eq_getElem (by omega)]
    simp [List.getD,List.getElem?_eq_getElem (show i < zs.length by omega)])
   have e1 : (⟨g,0,none⟩ : Addr).add i = ⟨g,0 + i,none⟩:=by unfold Addr.add;split <;> simp_all
   rw [<- e1];exact hc
theorem conv_block (src dst e t : TypeId) (hs : P.underlying src = some (.slice e)) (he : P.underlying e = some (.int .u8)) (hd : P.underlying dst = some .string)
 (g n cap : Nat) (zs : List Int) (fz : Nat × Nat) (hg : w.heap[g]? = some (.cells (zs.map (Value.int .u8)).toArray t fz)) (hn : zs.length = n) :
 (convert src dst (.slice (some ⟨g,0,none⟩) n cap)).run P w = .ok (.string (strOfNums zs)) w:=by
 refine run_convert_bytes_arg (P:=P) w src e hs he g 0 n cap zs hn (fun i hi => ?_) dst hd
 rw [Nat.zero_add,cell_of_row w g i _ _ _ hg]
 simp [List.getD,List.getElem?_eq_getElem (show i < zs.length by omega)]
theorem append_one {ops : Array Oper} {rest : List Oper} {o : Oper} {a : Act} {Q : Exit -> Act -> World -> Prop} (hgd : o.guard = none) (s x : Operand) (t : TypeId)
 (ho : o.op = .call { callee:=.builtin .append,args:=#[s,x],argTypes:=#[t,t] })
 (e : TypeId) (i : TypeInfo) (z : Value) (bytes : Nat) (ht : P.underlying t = some (.slice e)) (hi : P.info? e = some i) (hz : i.zero = some z)
 (hsize : i.size = 1) (hby : i.bytes = bytes) (hzs : z.cells.size = 1)
 (B : Nat) (W : World) (v : Value) (n : Nat) (xs : List Value) (hs : a.eval s = v) (hown : w.ownsRow B e 1 v n xs) (u : Value) (e' : TypeId) (hu : u.oneCell' = true)
 (hx : a.eval x = .slice (some ⟨w.heap.size,0,none⟩) 1 1) (hbel : Below B W w) (hB : B <= w.heap.size)
 (h63 : n + 1 <= maxLen) (hbytes : (n + 1) * bytes <= 140737488355328)
 (h : ∀ v' w',w'.ownsRow B e 1 v' (n + 1) (xs ++ [u]) -> Below B W w' -> wpList P ops Q rest (a.put o.dst v') w') : wpList P ops Q (o :: rest) a (w.alloc (.cells #[u] e')):=by
 refine wpList_append_own _ hgd s x t ho B e i z 1 bytes ht hi hz hsize hby hzs (by decide) v n xs hs (hown.alloc _) ⟨w.heap.size,0,none⟩ 1 1 [u] hx rfl ?_ ?_ h63 hbytes (by simp;omega) ?_
 · intro j y hj
   match j,hj with
   | 0,hj => simp at hj;subst hj;simp [Addr.add]
 · intro y hy;simp at hy;subst hy;exact hu
 · intro v' w' h1 h2 _
   exact h v' w' h1 ((hbel.alloc hB _).grown h2 (by simp;omega) (fun k hk => (hown.lt k hk).1))
def cutAt (b o k cap : Nat) : Option Addr:=some (if cap = k then ⟨b,o,none⟩ else ⟨b,o + k,none⟩)
theorem cutAt_lt {b o k cap : Nat} (h : k < cap) : cutAt b o k cap = some ⟨b,o + k,none⟩:=by unfold cutAt;rw [if_neg (by omega)]
theorem run_cut_from (W : World) (t e : TypeId) (ht : P.underlying t = some (.slice e)) (hz : ∀ w,(Go.sizeOf e).run P w = .ok 1 w) (b o len cap k : Nat) (hk : k <= len) :
 (Instr.slice t (.slice (some ⟨b,o,none⟩) len cap) (some (.int .i64 (k : Int))) none none).run P W = .ok (.slice (cutAt b o k cap) (len - k) (cap - k)) W:=by
 have ht' : P.underlying t = some (.slice (P.elem t)):=by simp [Program.elem,ht]
 have he : P.elem t = e:=by simp [Program.elem,ht]
 rw [run_slice_l W t _ _ _ ht' .i64 _ (by omega) (by omega),he,hz]
 unfold cutAt
 by_cases hc : cap = k
 · simp [Result.andThen,sliced,hc]
 · by_cases h0 : k = 0
   · subst h0
     simp [Result.andThen,sliced,Addr.add,hc]
   · simp [Result.andThen,sliced,Addr.add,hc,h0]
theorem run_cut_str (W : World) (t : TypeId) (h : P.underlying t = some .string) (s : ByteArray) (p n : Nat) (hpn : p + n <= s.size) :
 (Instr.slice t (.string s) (some (.int .i64 (p : Int))) (some (.int .i64 ((p : Int) + (n : Int)))) none).run P W = .ok (.string (s.extract p (p + n))) W:=by
 rw [run_slice_string W t s .i64 .i64 _ _ h (by omega) (by omega) (by omega)]
 have e : ((p : Int) + (n : Int)).toNat = p + n:=by omega
 rw [e]
 rfl
theorem size_cut (s : ByteArray) (p n : Nat) (hpn : p + n <= s.size) : (s.extract p (p + n)).size = n:=by simp [ByteArray.size_extract];omega
def spl (cur : Array Value) (off : Nat) (p : ByteArray) : Array Value:=(cur.toList.take off ++ (Lib.byteCells p.data.toList ++ cur.toList.drop (off + p.size))).toArray
theorem copy_str {ops : Array Oper} {rest : List Oper} {o : Oper} {a : Act} {Q : Exit -> Act -> World -> Prop} (hgd : o.guard = none) (d s : Operand) (dT sT : TypeId)
 (ho : o.op = .call { callee:=.builtin .copy,args:=#[d,s],argTypes:=#[dT,sT] }) (elem : TypeId) (hu : P.underlying dT = some (.slice elem)) (hsz : (P.info? elem).map (·.size) = some 1)
 (dp : Option Addr) (dLen dCap : Nat) (hd : a.eval d = .slice dp dLen dCap) (p : ByteArray) (hs : a.eval s = .string p)
 (g off : Nat) (cur : Array Value) (t : TypeId) (hg : w.heap[g]? = some (.cells cur t (0,0))) (hle : p.size <= dLen) (hpos : 0 < p.size -> dp = some ⟨g,off,none⟩) (hfit : off + p.size <= cur.size)
 (B : Nat) (W : World) (hb : Below B W w) (hBg : B <= g)
 (h : ∀ w',Hid (w'.heap[g]? = some (.cells (spl cur off p) t (0,0))) -> Below B W w' -> wpList P ops Q rest (a.put o.dst (.int .i64 (p.size : Int))) w') :
 wpList P ops Q (o :: rest) a w:=by
 refine wpList_plain hgd fun K hK => ?_
 by_cases h0 : p.size = 0
 · have hrun:=Lib.run_copy_empty_string (P:=P) w dT sT o.type elem dp dLen dCap p hu (by rw [hsz];rfl) h0
   unfold Oper.wp
   simp [execOp,ho,resolve,invoke,builtin,hd,hs,hrun,Result.andThen]
   have e : spl cur off p = cur:=by
    have e1 : p.data.toList = []:=List.eq_nil_of_length_eq_zero (by simpa using h0)
    simp [spl,e1,h0,Lib.byteCells]
   have:=hK _ _ (h w (show _ = _ by rw [e];exact hg) hb)
   rw [h0] at this
   exact this
 · obtain rfl:=hpos (by omega)
   have hrun:=Lib.run_copy_row_string (P:=P) w dT sT o.type elem g off dLen dCap p cur t hu hsz hg hle hfit
   unfold Oper.wp
   simp [execOp,ho,resolve,invoke,builtin,hd,hs,hrun,Result.andThen]
   exact hK _ _ (h (w.setRow g (spl cur off p)) (show _ = _ from setRow_heap w g cur (spl cur off p) t _ hg) (below_setRow hb hBg _))
end
end Go.Proofs.YtbgoldeopmlbnaaGreatDoor.G
namespace Go.Proofs.YtbgoldeopmlbnaaGreatDoor.IRow
open Go.RowKit
theorem grown_trans {a b c : World} {row : Option Nat} (h : a.grownBy b row) (k : b.grownBy c row) : a.grownBy c row :=
 ⟨k.os.trans h.os,k.tape.trans h.tape,k.output.trans h.output,Nat.le_trans h.size k.size,fun i hi hp => (k.block i (Nat.lt_of_lt_of_le hi h.size) hp).trans (h.block i hi hp)⟩
theorem own_shape {w : World} {base : Nat} {e : TypeId} {size : Nat} {v : Value} {n : Nat} {xs : List Value} (h : w.ownsRow base e size v n xs) : ∃ a c,v = .slice a n c:=by
 rcases h.2 with ⟨rfl,rfl⟩ | ⟨g,c,cur,rfl,_⟩
 · exact ⟨_,_,rfl⟩
 · exact ⟨_,_,rfl⟩
theorem own_mono {w : World} {base base' : Nat} {e : TypeId} {size : Nat} {v : Value} {n : Nat} {xs : List Value} (h : w.ownsRow base e size v n xs) (hb : base' <= base) : w.ownsRow base' e size v n xs:=by
 refine ⟨h.1,?_⟩
 rcases h.2 with hn | ⟨g,c,cur,hv,hg,rest⟩
 · exact .inl hn
 · exact .inr ⟨g,c,cur,hv,Nat.le_trans hb hg,rest⟩
theorem own_below {w w' : World} {base : Nat} {e : TypeId} {size : Nat} {v : Value} {n : Nat} {xs : List Value} (h : w.ownsRow base e size v n xs) (hb : Below w.heap.size w w') : w'.ownsRow base e size v n xs :=
 h.kept (row:=.none) ⟨hb.os,hb.tape,hb.output,hb.size,fun k hk _ => hb.block k hk⟩ (by cases hv : v.ownBlock <;> simp)
theorem own_other {w : World} {base : Nat} {e : TypeId} {size : Nat} {v : Value} {n : Nat} {xs : List Value} (h : w.ownsRow base e size v n xs) {b : Nat} (hne : ∀ g,v.ownBlock = some g -> g ≠ b) (p : Addr) (u : Value) (hp : p.block = b) : (w.setCell p u).ownsRow base e size v n xs:=by
 refine h.kept (row:=some b) ⟨rfl,rfl,rfl,by simp,fun k _ hk => heap_setCell_other w p k u (fun e => hk (by rw [e,hp]))⟩ ?_
 cases hv : v.ownBlock with
 | none => exact .inl rfl
 | some g => exact .inr (fun h2 => by have:=hne g hv;simp only [Option.some.injEq] at h2;exact this h2)
def Disj (v u : Value) : Prop:=∀ g,v.ownBlock = some g -> u.ownBlock ≠ some g
theorem own_disj {w w' : World} {base : Nat} {e e' : TypeId} {size size' : Nat} {v u : Value} {n m : Nat} {xs ys : List Value} (h : w.ownsRow base e size v n xs) (k : w'.ownsRow w.heap.size e' size' u m ys) : Disj v u :=
 fun g hg h2 => by have:=(h.lt g hg).2;have:=(k.lt g h2).1;omega
theorem own_grown {w w' : World} {base : Nat} {e : TypeId} {size : Nat} {v u : Value} {n : Nat} {xs : List Value} (h : w.ownsRow base e size v n xs) (hg : w.grownBy w' u.ownBlock) (hd : Disj v u) : w'.ownsRow base e size v n xs:=by
 refine h.kept hg ?_
 cases hv : v.ownBlock with
 | none => exact .inl rfl
 | some g => exact .inr (fun h2 => hd g hv h2.symm)
end Go.Proofs.YtbgoldeopmlbnaaGreatDoor.IRow
namespace Go.Proofs.YtbgoldeopmlbnaaGreatDoor
theorem infoU8 : (Tryz.prog.info? 5).map (fun i => (i.zero,i.size,i.bytes)) = some (some (.int .u8 0),1,1):=by kernel_rfl
theorem sizeU8 : (Tryz.prog.info? 5).map (·.size) = some 1:=by kernel_rfl
theorem sizeOfU8 (w : World) : (Go.sizeOf 5).run Tryz.prog w = .ok 1 w:=by kernel_rfl
end Go.Proofs.YtbgoldeopmlbnaaGreatDoor
namespace Go.Proofs.YtbgoldeopmlbnaaGreatDoor
open Go.RowKit Go.Extern.Stop Go.Stop Go.Extern
set_option linter.unusedVariables false
theorem as_valueOf27 (t : Addr) (w : World) : (ReflectliteValue.unpack (.iface 132 (.pointer (some t)))).run Tryz.prog w
 = .ok (.agg #[.pointer (some ⟨1,132,none⟩),.pointer (some ⟨w.heap.size,0,none⟩),.int .u64 150]) (w.alloc (.cells #[.pointer (some t)] 132)):=by kernel_rfl
theorem as_type27 (a : Addr) (w : World) : (ReflectliteValue.methodAny (ReflectliteValue.valueError "reflectlite.Value.Type" 0) (fun t _ _ _ => ReflectliteType.toType t) #[.agg #[.pointer (some ⟨1, 132, none⟩), .pointer (some a), .int .u64 150]]).run Tryz.prog w
 = .ok (.iface 163 (.agg #[.pointer (some ⟨1,132,none⟩)])) w:=by kernel_rfl
theorem as_methodKind (h : Value) (w : World) : (Go.method 328 163 (.agg #[h]) "Kind").run Tryz.prog w = .ok (154, h) w := by kernel_rfl
theorem as_kind27 (w : World) : ((ReflectliteType.abiMethod fun t => (fun a : Nat => Value.int IntKind.u8 (a : Int)) <$> Rtype.kind t) #[.pointer (some ⟨1,132,none⟩)]).run Tryz.prog w = .ok (.int .u8 22) w:=by kernel_rfl
theorem as_kind25 (w : World) : ((ReflectliteType.abiMethod fun t => (fun a : Nat => Value.int IntKind.u8 (a : Int)) <$> Rtype.kind t) #[.pointer (some ⟨1,130,none⟩)]).run Tryz.prog w = .ok (.int .u8 25) w:=by kernel_rfl
theorem as_parts27 (a : Addr) (w : World) : (ReflectliteValue.parts (.agg #[.pointer (some ⟨1,132,none⟩),.pointer (some a),.int .u64 150])).run Tryz.prog w = .ok (some (132,a,150)) w:=by kernel_rfl
theorem as_isNil27 (a p : Addr) (W : World) (ha : W.cell? a = some (.pointer (some p))) :
 (ReflectliteValue.method (ReflectliteValue.valueError "reflectlite.Value.IsNil" 0) ReflectliteValue.isNil #[.agg #[.pointer (some ⟨1, 132, none⟩), .pointer (some a), .int .u64 150]]).run Tryz.prog W = .ok (.bool false) W := by
 rw [Lib.rl_method]
 simp only [Sem.run_bind,as_parts27,Result.andThen]
 simp [ReflectliteValue.isNil,loadVar,isAgg,underlying,Tryz.underlying132,ha,Result.andThen]
theorem as_methodElem (h : Value) (w : World) : (Go.method 328 163 (.agg #[h]) "Elem").run Tryz.prog w = .ok (181, .agg #[h]) w := by kernel_rfl
theorem as_methodImplements (h : Value) (w : World) : (Go.method 328 163 (.agg #[h]) "Implements").run Tryz.prog w = .ok (182, .agg #[h]) w := by kernel_rfl
theorem as_methodAssignableTo (h : Value) (w : World) : (Go.method 328 163 (.agg #[h]) "AssignableTo").run Tryz.prog w = .ok (179, .agg #[h]) w := by kernel_rfl
theorem as_elem27 (w : World) : (ReflectliteType.method ReflectliteType.elem #[.agg #[.pointer (some ⟨1,132,none⟩)]]).run Tryz.prog w = .ok (.iface 163 (.agg #[.pointer (some ⟨1,130,none⟩)])) w:=by kernel_rfl
theorem as_implements25 (w : World) : (ReflectliteType.relation "Implements" ReflectliteType.implements_ #[.agg #[.pointer (some ⟨1, 130, none⟩)], .iface 163 (.agg #[.pointer (some ⟨1, 102, none⟩)])]).run Tryz.prog w = .ok (.bool true) w := by kernel_rfl
theorem as_typeOf25 (v : Value) (w : World) : (ReflectliteType.typeOf #[.iface 130 v]).run Tryz.prog w = .ok (.iface 163 (.agg #[.pointer (some ⟨1,130,none⟩)])) w:=by kernel_rfl
theorem as_assignable25 (w : World) : (ReflectliteType.relation "AssignableTo" ReflectliteType.assignableTo #[.agg #[.pointer (some ⟨1, 130, none⟩)], .iface 163 (.agg #[.pointer (some ⟨1, 130, none⟩)])]).run Tryz.prog w = .ok (.bool true) w := by kernel_rfl
theorem as_valueOf25 (c : Int) (w : World) : (ReflectliteValue.unpack (.iface 130 (.agg #[.int .i64 c]))).run Tryz.prog w
 = .ok (.agg #[.pointer (some ⟨1,130,none⟩),.pointer (some ⟨w.heap.size,0,none⟩),.int .u64 153]) (w.alloc (.cells #[.int .i64 c] 130)):=by kernel_rfl
theorem as_elemOf27 (w : World) : (Rtype.elem? 132).run Tryz.prog w = .ok (some 130) w:=by kernel_rfl
theorem as_mk25 (p : Addr) (w : World) : (ReflectliteValue.mk 130 p ReflectliteValue.flagAddr).run Tryz.prog w = .ok (.agg #[.pointer (some ⟨1,130,none⟩),.pointer (some p),.int .u64 409]) w:=by kernel_rfl
theorem as_elemV27 (a p : Addr) (W : World) (ha : W.cell? a = some (.pointer (some p))) :
 (ReflectliteValue.method (ReflectliteValue.valueError "reflectlite.Value.Elem" 0) ReflectliteValue.elem #[.agg #[.pointer (some ⟨1, 132, none⟩), .pointer (some a), .int .u64 150]]).run Tryz.prog W
  = .ok (.agg #[.pointer (some ⟨1,130,none⟩),.pointer (some p),.int .u64 409]) W:=by
 rw [Lib.rl_method]
 simp only [Sem.run_bind,as_parts27,Result.andThen]
 simp [ReflectliteValue.elem,loadVar,isAgg,underlying,Tryz.underlying132,ha,Result.andThen,as_elemOf27,as_mk25]
theorem as_parts25a (a : Addr) (w : World) : (ReflectliteValue.parts (.agg #[.pointer (some ⟨1,130,none⟩),.pointer (some a),.int .u64 409])).run Tryz.prog w = .ok (some (130,a,409)) w:=by kernel_rfl
theorem as_parts25 (a : Addr) (w : World) : (ReflectliteValue.parts (.agg #[.pointer (some ⟨1,130,none⟩),.pointer (some a),.int .u64 153])).run Tryz.prog w = .ok (some (130,a,153)) w:=by kernel_rfl
theorem as_direct25 (w : World) : (Rtype.directlyAssignable 130 130).run Tryz.prog w = .ok true w:=by kernel_rfl
theorem as_set25 (ta b : Addr) (c : Int) (old : Value) (W : World) (hb : W.cell? b = some (.int .i64 c)) (ht : W.cell? ta = some old) (hf : W.frozen? ta = false) :
 (ReflectliteValue.set #[.agg #[.pointer (some ⟨1,130,none⟩),.pointer (some ta),.int .u64 409],.agg #[.pointer (some ⟨1,130,none⟩),.pointer (some b),.int .u64 153]]).run Tryz.prog W
  = .ok (.tuple #[]) (W.setCell ta (.int .i64 c)):=by
 show Sem.run _ (Bind.bind (ReflectliteValue.parts (.agg #[.pointer (some ⟨1,130,none⟩),.pointer (some ta),.int .u64 409])) fun _ => Bind.bind (ReflectliteValue.parts (.agg #[.pointer (some ⟨1,130,none⟩),.pointer (some b),.int .u64 153])) fun _ => _) W = _
 simp only [Sem.run_bind,as_parts25a,as_parts25,Result.andThen]
 have hl : (loadCells b 1).run Tryz.prog W = .ok #[.int .i64 c] W:=by
  have h:=run_loadCells_list (P:=Tryz.prog) W b [.int .i64 c] (fun j v hj => by
   match j,hj with
   | 0,hj => simp at hj;subst hj;simpa [Addr.add] using hb)
  simpa using h
 have hst : (store ta (.int .i64 c)).run Tryz.prog W = .ok () (W.setCell ta (.int .i64 c)):=by
  rw [run_store Tryz.prog W ta _ _ (by rfl)]
  simp [ht,hf]
 simp [ReflectliteValue.flagAddr,loadVar,isAgg,underlying,Tryz.underlying130,hl,Result.andThen,as_direct25,storeVar,Value.cells,storeCells,Addr.add,hst]
theorem as_hit (c : Int) (t : Addr) (old : Value) (w : World) (hg : w.cell? ⟨0,0,none⟩ = some (.iface 163 (.agg #[.pointer (some ⟨1,102,none⟩)]))) (ht0 : w.cell? t = some old) (hf0 : w.frozen? t = false) :
 Calls Tryz.prog 94 #[.iface 130 (.agg #[.int .i64 c]),.iface 132 (.pointer (some t))] w fun ev w' => ev = .returned (.bool true) /\ w' = ((((w.alloc (.cells #[.pointer (some t)] 132)).alloc (.cells #[.pointer (some ⟨1,132,none⟩),.pointer (some ⟨w.heap.size,0,none⟩),.int .u64 150] 149)).alloc (.cells #[.pointer (some ⟨1,132,none⟩),.pointer (some ⟨w.heap.size,0,none⟩),.int .u64 150] 149)).alloc (.cells #[.int .i64 c] 130)).setCell t (.int .i64 c):=by
 have h6:=@run_callFunc_extern Tryz.prog 107 _ (fun args => ReflectliteValue.unpack (args.getD 0 (.tuple #[]))) Tryz.func107 (by kernel_rfl) (by kernel_rfl) (by kernel_rfl) (by kernel_rfl)
 have h7 := @run_callFunc_extern Tryz.prog 108 _ (ReflectliteValue.methodAny (ReflectliteValue.valueError "reflectlite.Value.Type" 0) (fun t _ _ _ => ReflectliteType.toType t)) Tryz.func108 (by kernel_rfl) (by kernel_rfl) (by kernel_rfl) (by kernel_rfl)
 have h8 := @run_callFunc_extern Tryz.prog 109 _ (ReflectliteValue.method (ReflectliteValue.valueError "reflectlite.Value.IsNil" 0) ReflectliteValue.isNil) Tryz.func109 (by kernel_rfl) (by kernel_rfl) (by kernel_rfl) (by kernel_rfl)
 have h27:=@run_callFunc_extern Tryz.prog 154 _ (ReflectliteType.abiMethod fun t => do pure (.int .u8 (<- Rtype.kind t))) Tryz.func154 (by kernel_rfl) (by kernel_rfl) (by kernel_rfl) (by kernel_rfl)
 have h37:=@run_callFunc_extern Tryz.prog 181 _ (ReflectliteType.method ReflectliteType.elem) Tryz.func181 (by kernel_rfl) (by kernel_rfl) (by kernel_rfl) (by kernel_rfl)
 have h38 := @run_callFunc_extern Tryz.prog 182 _ (ReflectliteType.relation "Implements" ReflectliteType.implements_) Tryz.func182 (by kernel_rfl) (by kernel_rfl) (by kernel_rfl) (by kernel_rfl)
 have h10:=@run_callFunc_extern Tryz.prog 116 _ ReflectliteType.typeOf Tryz.func116 (by kernel_rfl) (by kernel_rfl) (by kernel_rfl) (by kernel_rfl)
 have h35 := @run_callFunc_extern Tryz.prog 179 _ (ReflectliteType.relation "AssignableTo" ReflectliteType.assignableTo) Tryz.func179 (by kernel_rfl) (by kernel_rfl) (by kernel_rfl) (by kernel_rfl)
 have h11 := @run_callFunc_extern Tryz.prog 117 _ (ReflectliteValue.method (ReflectliteValue.valueError "reflectlite.Value.Elem" 0) ReflectliteValue.elem) Tryz.func117 (by kernel_rfl) (by kernel_rfl) (by kernel_rfl) (by kernel_rfl)
 have h12:=@run_callFunc_extern Tryz.prog 118 _ ReflectliteValue.set Tryz.func118 (by kernel_rfl) (by kernel_rfl) (by kernel_rfl) (by kernel_rfl)
 have tO:=as_typeOf25
 have mA:=as_methodAssignableTo
 have a25:=as_assignable25
 have v25:=as_valueOf25
 have f6:=as_valueOf27
 have f7:=as_type27
 have mK:=as_methodKind
 have mE:=as_methodElem
 have mI:=as_methodImplements
 have k27:=as_kind27
 have k25:=as_kind25
 have e27:=as_elem27
 have i25:=as_implements25
 have n8:=as_isNil27 ⟨w.heap.size,0,none⟩ t ((w.alloc (.cells #[.pointer (some t)] 132)).alloc (.cells #[.pointer (some ⟨1,132,none⟩),.pointer (some ⟨w.heap.size,0,none⟩),.int .u64 150] 149)) (by simp)
 have hlt : 0 < w.heap.size:=by
  rcases Nat.eq_zero_or_pos w.heap.size with h0 | h
  · simp [World.cell?,h0] at hg
  · exact h
 have hg2 : ((w.alloc (.cells #[.pointer (some t)] 132)).alloc (.cells #[.pointer (some ⟨1,132,none⟩),.pointer (some ⟨w.heap.size,0,none⟩),.int .u64 150] 149)).cell? ⟨0,0,none⟩ = some (.iface 163 (.agg #[.pointer (some ⟨1,102,none⟩)])):=by
  rw [World.cell?_alloc_lt _ _ ⟨0,0,none⟩ (by simp),World.cell?_alloc_lt _ _ ⟨0,0,none⟩ hlt];exact hg
 have htl : t.block < w.heap.size:=by
  rcases Nat.lt_or_ge t.block w.heap.size with h | h
  · exact h
  · simp [World.cell?,Array.getElem?_eq_none h] at ht0
 have el:=as_elemV27 ⟨w.heap.size,0,none⟩ t (((w.alloc (.cells #[.pointer (some t)] 132)).alloc (.cells #[.pointer (some ⟨1,132,none⟩),.pointer (some ⟨w.heap.size,0,none⟩),.int .u64 150] 149)).alloc (.cells #[.pointer (some ⟨1,132,none⟩),.pointer (some ⟨w.heap.size,0,none⟩),.int .u64 150] 149)) (by rw [World.cell?_alloc_lt _ _ ⟨w.heap.size,0,none⟩ (by simp;omega)];simp)
 have st:=as_set25 t ⟨w.heap.size + 1 + 1 + 1,0,none⟩ c old ((((w.alloc (.cells #[.pointer (some t)] 132)).alloc (.cells #[.pointer (some ⟨1,132,none⟩),.pointer (some ⟨w.heap.size,0,none⟩),.int .u64 150] 149)).alloc (.cells #[.pointer (some ⟨1,132,none⟩),.pointer (some ⟨w.heap.size,0,none⟩),.int .u64 150] 149)).alloc (.cells #[.int .i64 c] 130))
  (by rw [World.cell?_alloc_at _ _ _ _ (by simp)];rfl)
  (by rw [World.cell?_alloc_lt _ _ t (by simp;omega),World.cell?_alloc_lt _ _ t (by simp;omega),World.cell?_alloc_lt _ _ t (by simp;omega),World.cell?_alloc_lt _ _ t htl];exact ht0)
  (by rw [World.frozen?_alloc_old _ _ t (by simp;omega),World.frozen?_alloc_old _ _ t (by simp;omega),World.frozen?_alloc_old _ _ t (by simp;omega),World.frozen?_alloc_old _ _ t (Nat.ne_of_lt htl)];exact hf0)
 go_enter Tryz.func94,Tryz.ntmps94
 go_wp2
 refine wp_loop_rounds 1 ?_
 rw [rounds_succ]
 go_wp2
 go_ret
 exact ⟨rfl,rfl⟩
end Go.Proofs.YtbgoldeopmlbnaaGreatDoor
