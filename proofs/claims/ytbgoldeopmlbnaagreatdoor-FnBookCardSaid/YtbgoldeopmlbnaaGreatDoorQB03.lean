/- Used by the law. -/
import Derived.Defers
import Derived.Laws.Pointers
import Derived.Laws.LoneSync
import Derived.RegionCalls
import Derived.Laws.NewBlocks
import Derived.Deep.RegionHeld3
import Derived.Maps.AppendAt
import Derived.Test.YtbgoldeopmlbnaaGreatDoorQB02
set_option maxRecDepth 100000
set_option maxHeartbeats 16000000
namespace Go.Proofs.YtbgoldeopmlbnaaGreatDoor
open Go.RowKit Go.PlainAid G IRow MGF
set_option linter.unusedVariables false
theorem grown_set (w : World) (b i : Nat) (v : Value) : w.grownBy (w.setCell ⟨b,i,none⟩ v) (some b) :=
 ⟨rfl,rfl,rfl,by simp,fun k hk hne => by unfold World.setCell;simp only [Array.getElem?_modify];rw [if_neg (fun e => hne (by rw [e]))]⟩
end Go.Proofs.YtbgoldeopmlbnaaGreatDoor
namespace Go.Proofs.YtbgoldeopmlbnaaGreatDoor
open Go.RowKit Go.PlainAid G IRow MGF
set_option linter.unusedVariables false
end Go.Proofs.YtbgoldeopmlbnaaGreatDoor
namespace Go.Proofs.YtbgoldeopmlbnaaGreatDoor
open Go.RowKit Go.PlainAid G IRow MGF
set_option linter.unusedVariables false
end Go.Proofs.YtbgoldeopmlbnaaGreatDoor
namespace Go.Proofs.YtbgoldeopmlbnaaGreatDoor
open Go.RowKit Go.PlainAid G IRow MGF
set_option linter.unusedVariables false
end Go.Proofs.YtbgoldeopmlbnaaGreatDoor
namespace Go.Proofs.YtbgoldeopmlbnaaGreatDoor
open Go.RowKit Go.PlainAid G IRow MGF
set_option linter.unusedVariables false
end Go.Proofs.YtbgoldeopmlbnaaGreatDoor
namespace Go.Proofs.YtbgoldeopmlbnaaGreatDoor
open Go.RowKit Go.PlainAid G IRow MGF
set_option linter.unusedVariables false
theorem fg_below {w w' : World} {row : Option Nat} (hb : Below w.heap.size w w') : w.grownBy w' row:=⟨hb.os,hb.tape,hb.output,hb.size,fun k hk _ => hb.block k hk⟩
end Go.Proofs.YtbgoldeopmlbnaaGreatDoor
namespace Go.Proofs.YtbgoldeopmlbnaaGreatDoor
open Go.RowKit Go.PlainAid G IRow MGF
set_option linter.unusedVariables false
end Go.Proofs.YtbgoldeopmlbnaaGreatDoor
namespace Go.Proofs.YtbgoldeopmlbnaaGreatDoor
open Go.RowKit Go.PlainAid G IRow MGF
set_option linter.unusedVariables false
end Go.Proofs.YtbgoldeopmlbnaaGreatDoor
namespace Go.Proofs.YtbgoldeopmlbnaaGreatDoor
open Go.RowKit Go.PlainAid G IRow MGF
set_option linter.unusedVariables false
end Go.Proofs.YtbgoldeopmlbnaaGreatDoor
namespace Go.Proofs.YtbgoldeopmlbnaaGreatDoor
open Go.RowKit Go.PlainAid G IRow MGF
set_option linter.unusedVariables false
end Go.Proofs.YtbgoldeopmlbnaaGreatDoor
namespace Go.Proofs.YtbgoldeopmlbnaaGreatDoor.IRow
open Go.RowKit
structure Enc (α : Type) where
 k : Nat
 cells : α -> List Value
 len : ∀ x,(cells x).length = k
 one : ∀ x,∀ v ∈ cells x,v.oneCell' = true
def Enc.flat {α : Type} (E : Enc α) : List α -> List Value
 | [] => []
 | p :: ps => E.cells p ++ E.flat ps
theorem Enc.flat_length {α : Type} (E : Enc α) (ps : List α) : (E.flat ps).length = ps.length * E.k:=by
 induction ps with
 | nil => simp [Enc.flat]
 | cons p ps ih => simp only [Enc.flat,List.length_append,List.length_cons,ih,E.len,Nat.succ_mul];omega
theorem Enc.flat_snoc {α : Type} (E : Enc α) (ps : List α) (p : α) : E.flat (ps ++ [p]) = E.flat ps ++ E.cells p:=by
 induction ps with
 | nil => simp [Enc.flat]
 | cons q ps ih => simp only [List.cons_append,Enc.flat,ih,List.append_assoc]
theorem Enc.flat_append {α : Type} (E : Enc α) (ps qs : List α) : E.flat (ps ++ qs) = E.flat ps ++ E.flat qs:=by
 induction ps with
 | nil => rfl
 | cons q ps ih => simp only [List.cons_append,Enc.flat,ih,List.append_assoc]
theorem Enc.flat_at {α : Type} (E : Enc α) (d : α) (ps : List α) : ∀ i j,i < ps.length -> j < E.k -> (E.flat ps)[i * E.k + j]? = (E.cells (ps.getD i d))[j]?:=by
 induction ps with
 | nil => intro i j h;simp at h
 | cons p ps ih =>
  intro i j h hj
  have hl:=E.len p
  cases i with
  | zero => simp only [Enc.flat,Nat.zero_mul,Nat.zero_add,List.getD_cons_zero];rw [List.getElem?_append_left (by omega)]
  | succ i =>
   have:=ih i j (by simpa using h) hj
   simp only [Enc.flat,List.getD_cons_succ]
   rw [<- this,List.getElem?_append_right (by rw [Nat.succ_mul];omega)]
   congr 1
   rw [Nat.succ_mul]
   omega
structure SR {α : Type} (E : Enc α) (d : α) (w : World) (a : Option Addr) (n cap : Nat) (ps : List α) : Prop where
 len : ps.length = n
 le : n <= cap
 nil : a = none -> cap = 0
 cells : 0 < n -> ∃ g o,a = some ⟨g,o,none⟩ /\ g < w.heap.size /\ ∀ i,i < n -> ∀ j v,(E.cells (ps.getD i d))[j]? = some v -> w.cell? ⟨g,o + i * E.k + j,none⟩ = some v
theorem SR.grown {α : Type} {E : Enc α} {d : α} {w w' : World} {row : Option Nat} {a : Option Addr} {n cap : Nat} {ps : List α} (h : SR E d w a n cap ps) (hg : w.grownBy w' row) (hne : 0 < n -> ∀ g o,a = some ⟨g,o,.none⟩ -> some g ≠ row) : SR E d w' a n cap ps:=by
 refine ⟨h.len,h.le,h.nil,fun hn => ?_⟩
 obtain ⟨g,o,ha,hgl,hc⟩:=h.cells hn
 exact ⟨g,o,ha,Nat.lt_of_lt_of_le hgl hg.size,fun i hi j v hj => hg.cell (hc i hi j v hj) (hne hn g o ha)⟩
theorem SR.below {α : Type} {E : Enc α} {d : α} {w w' : World} {a : Option Addr} {n cap : Nat} {ps : List α} (h : SR E d w a n cap ps) (hb : Below w.heap.size w w') : SR E d w' a n cap ps :=
 h.grown (row:=.none) ⟨hb.os,hb.tape,hb.output,hb.size,fun k hk _ => hb.block k hk⟩ (fun _ g o _ => by simp)
theorem SR.own {α : Type} {E : Enc α} {d : α} {w : World} {base n cap : Nat} {a : Option Addr} {e : TypeId} {ps : List α} (hk : 0 < E.k) (h : w.ownsRow base e E.k (.slice a n cap) n (E.flat ps)) : SR E d w a n cap ps:=by
 have hl : ps.length = n:=by have:=h.1;rw [E.flat_length] at this;exact Nat.eq_of_mul_eq_mul_right hk this
 have hle : n <= cap /\ (a = .none -> cap = 0):=by
  rcases h.2 with ⟨hv,h0⟩ | ⟨g,c,cur,hv,_,_,hnc,_⟩
  · simp only [Value.slice.injEq] at hv
    obtain ⟨rfl,rfl,rfl⟩:=hv
    exact ⟨Nat.le_refl _,fun _ => rfl⟩
  · simp only [Value.slice.injEq] at hv
    obtain ⟨rfl,_,rfl⟩:=hv
    exact ⟨hnc,fun h => by cases h⟩
 refine ⟨hl,hle.1,hle.2,fun hn => ?_⟩
 obtain ⟨g,cap',hv,hb,hg⟩:=h.form hn
 simp only [Value.slice.injEq] at hv
 obtain ⟨rfl,_,rfl⟩:=hv
 refine ⟨g,0,rfl,hg,fun i hi j v hj => ?_⟩
 have hjk : j < E.k:=by
  by_cases hj2 : j < E.k
  · exact hj2
  · rw [List.getElem?_eq_none (by rw [E.len];omega)] at hj;cases hj
 have hlt : i * E.k + j < n * E.k:=by
  have : i * E.k + E.k <= n * E.k:=by rw [<- Nat.succ_mul];exact Nat.mul_le_mul_right _ hi
  omega
 rw [Nat.zero_add,h.cellAt (i * E.k + j) (by omega),E.flat_at d ps i j (by omega) hjk,hj]
theorem SR.take {α : Type} {E : Enc α} {d : α} {w : World} {a : Option Addr} {n cap k : Nat} {ps : List α} (h : SR E d w a n cap ps) (hk : k <= n) : SR E d w a k cap (ps.take k):=by
 have hl:=h.len
 refine ⟨by rw [List.length_take];omega,by have:=h.le;omega,h.nil,fun hn => ?_⟩
 obtain ⟨g,o,ha,hg,hc⟩:=h.cells (by omega)
 refine ⟨g,o,ha,hg,fun i hi j v hj => hc i (by omega) j v ?_⟩
 rw [<- hj]
 simp [List.getD,hi]
theorem SR.drop {α : Type} {E : Enc α} {d : α} {w : World} {g o n cap k : Nat} {ps : List α} (h : SR E d w (some ⟨g,o,.none⟩) n cap ps) (hk : k < n) : SR E d w (some ⟨g,o + k * E.k,.none⟩) (n - k) (cap - k) (ps.drop k):=by
 have hl:=h.len
 have hle:=h.le
 refine ⟨by rw [List.length_drop];omega,by omega,(fun e => by cases e),fun hn => ?_⟩
 obtain ⟨g',o',ha,hg,hc⟩:=h.cells (by omega)
 simp only [Option.some.injEq,Addr.mk.injEq,and_true] at ha
 obtain ⟨rfl,rfl⟩:=ha
 refine ⟨g,o + k * E.k,rfl,hg,fun i hi j v hj => ?_⟩
 have:=hc (k + i) (by omega) j v (by rw [<- hj];simp [List.getD])
 rw [Nat.add_mul] at this
 rw [show o + k * E.k + i * E.k + j = o + (k * E.k + i * E.k) + j by omega]
 exact this
theorem SR.news {α : Type} {E : Enc α} {d : α} {w : World} {a : Option Addr} {n cap : Nat} {ps : List α} (h : SR E d w a n cap ps) : ∀ ad,a = some ad -> ∀ j u,(E.flat ps)[j]? = some u -> w.cell? (ad.add j) = some u:=by
 intro ad ha j u hu
 have hl:=h.len
 have hj : j < (E.flat ps).length:=by
  by_cases hj : j < (E.flat ps).length
  · exact hj
  · rw [List.getElem?_eq_none (by omega)] at hu;cases hu
 rw [E.flat_length] at hj
 have hk : 0 < E.k:=by
  rcases Nat.eq_zero_or_pos E.k with h0 | h0
  · rw [h0] at hj;omega
  · exact h0
 have hn : 0 < n:=by
  rcases Nat.eq_zero_or_pos n with h0 | h0
  · rw [hl,h0] at hj;omega
  · exact h0
 obtain ⟨g,o,ha',hg,hc⟩:=h.cells hn
 rw [ha] at ha'
 cases ha'
 have e1 : (⟨g,o,.none⟩ : Addr).add j = ⟨g,o + j,.none⟩:=by unfold Addr.add;split <;> simp_all
 have hd : j / E.k < ps.length:=Nat.div_lt_of_lt_mul (by rw [Nat.mul_comm];exact hj)
 have hm:=Nat.mod_lt j hk
 have hj2 : j / E.k * E.k + j % E.k = j:=Nat.div_add_mod' j E.k
 have:=E.flat_at d ps (j / E.k) (j % E.k) hd hm
 rw [hj2,hu] at this
 have h2:=hc (j / E.k) (by omega) (j % E.k) u this.symm
 rw [e1]
 rw [Nat.add_assoc,hj2] at h2
 exact h2
theorem Enc.flat_one {α : Type} (E : Enc α) (ps : List α) : ∀ v ∈ E.flat ps,v.oneCell' = true:=by
 induction ps with
 | nil => intro v hv;simp [Enc.flat] at hv
 | cons p ps ih =>
  intro v hv
  simp only [Enc.flat,List.mem_append] at hv
  exact hv.elim (E.one p v) (ih v)
theorem append_enc {α : Type} (E : Enc α) {P : Program} {w : World} {ops : Array Oper} {rest : List Oper} {o : Oper} {a : Act} {Q : Exit -> Act -> World -> Prop} (hgd : o.guard = none) (s x : Operand) (t : TypeId)
 (ho : o.op = .call { callee:=.builtin .append,args:=#[s,x],argTypes:=#[t,t] })
 (e : TypeId) (i : TypeInfo) (z : Value) (bytes : Nat) (ht : P.underlying t = some (.slice e)) (hi : P.info? e = some i) (hz : i.zero = some z) (hsize : i.size = E.k) (hby : i.bytes = bytes) (hzs : z.cells.size = E.k) (hk : 0 < E.k) (hbb : bytes <= 1024)
 (B : Nat) (v : Value) (n : Nat) (ps : List α) (hs : a.eval s = v) (hown : w.ownsRow B e E.k v n (E.flat ps)) (p : α) (cs : Array Value) (hcs : cs = (E.cells p).toArray) (e' : TypeId)
 (hx : a.eval x = .slice (some ⟨w.heap.size,0,none⟩) 1 1) (hB : B <= w.heap.size) (hn : n <= 1048576)
 (h : ∀ v' w',w'.ownsRow B e E.k v' (n + 1) (E.flat (ps ++ [p])) -> w.grownBy w' v.ownBlock -> (v'.ownBlock = v.ownBlock ∨ ∃ g,v'.ownBlock = some g /\ w.heap.size <= g) -> wpList P ops Q rest (a.put o.dst v') w') : wpList P ops Q (o :: rest) a (w.alloc (.cells cs e')):=by
 subst hcs
 refine wpList_append_own_at _ hgd s x t ho B e i z E.k bytes ht hi hz hsize hby hzs hk v n (E.flat ps) hs (hown.alloc _) ⟨w.heap.size,0,none⟩ 1 1 (E.cells p) hx (by rw [E.len,Nat.one_mul]) ?_ (E.one p) (by unfold maxLen;omega) ?_ (by simp;omega) ?_
 · intro j z hj
   have hjl : j < (E.cells p).length:=by
    by_cases h2 : j < (E.cells p).length
    · exact h2
    · rw [List.getElem?_eq_none (by omega)] at hj;cases hj
   have e1 : (⟨w.heap.size,0,none⟩ : Addr).add j = ⟨w.heap.size,0 + j,none⟩:=by unfold Addr.add;split <;> simp_all
   rw [e1,Nat.zero_add]
   have:=World.cell?_alloc_new w (E.cells p).toArray e' j
   rw [this]
   simpa using hj
 · have : (n + 1) * bytes <= 1048577 * 1024:=Nat.mul_le_mul (by omega) hbb
   omega
 · intro v' w' h1 h2 _ h3
   rw [<- E.flat_snoc] at h1
   refine h v' w' h1 (grown_trans (World.grownBy_alloc w _ _) h2) ?_
   rcases h3 with h3 | h3
   · exact .inl h3
   · exact .inr ⟨_,h3,by simp⟩
end Go.Proofs.YtbgoldeopmlbnaaGreatDoor.IRow
namespace Go.Proofs.YtbgoldeopmlbnaaGreatDoor
open Go.RowKit G MGF IRow
set_option linter.unusedVariables false
end Go.Proofs.YtbgoldeopmlbnaaGreatDoor
namespace Go.Proofs.YtbgoldeopmlbnaaGreatDoor
open Go.RowKit Go.PlainAid G MGF IRow
set_option linter.unusedVariables false
end Go.Proofs.YtbgoldeopmlbnaaGreatDoor
namespace Go.Proofs.YtbgoldeopmlbnaaGreatDoor
open Go.RowKit Go.PlainAid G MGF IRow
set_option linter.unusedVariables false
end Go.Proofs.YtbgoldeopmlbnaaGreatDoor
