/- Used by the law. -/
import Derived.Test.YtbgoldeopmlbnaaGreatDoorQB08
set_option maxRecDepth 100000
set_option maxHeartbeats 16000000
namespace Go.Proofs.YtbgoldeopmlbnaaGreatDoor
open Go.RowKit Go.PlainAid G MGF IRow
set_option linter.unusedVariables false
structure Im where
 nm : ByteArray
 tm : Int
 bd : ByteArray
def imD : Im:=⟨ByteArray.empty,0,ByteArray.empty⟩
def imE : Enc Im:=⟨3,fun e => [.string e.nm,.int .i64 e.tm,.string e.bd],fun _ => rfl,by intro x v hv;simp at hv;rcases hv with rfl | rfl | rfl <;> rfl⟩
abbrev ImR (w : World) (a : Option Addr) (n cap : Nat) (l : List Im) : Prop:=SR imE imD w a n cap l
theorem ImR.at {w : World} {a : Option Addr} {n cap : Nat} {l : List Im} (h : ImR w a n cap l) {i : Nat} (hi : i < n) : ∃ g o,a = some ⟨g,o,none⟩ /\ g < w.heap.size /\ w.cell? ⟨g,o + i * 3,none⟩ = some (.string (l.getD i imD).nm) /\ w.cell? ⟨g,o + i * 3 + 1,none⟩ = some (.int .i64 (l.getD i imD).tm) /\ w.cell? ⟨g,o + i * 3 + 2,none⟩ = some (.string (l.getD i imD).bd):=by
 obtain ⟨g,o,ha,hg,hc⟩:=h.cells (by omega)
 exact ⟨g,o,ha,hg,hc i hi 0 _ rfl,hc i hi 1 _ rfl,hc i hi 2 _ rfl⟩
theorem ImR.own {w : World} {base n cap : Nat} {a : Option Addr} {e : TypeId} {l : List Im} (h : w.ownsRow base e imE.k (.slice a n cap) n (imE.flat l)) : ImR w a n cap l:=SR.own (by decide) h
theorem ImR.olen {w : World} {base n cap : Nat} {a : Option Addr} {e : TypeId} {l : List Im} (h : w.ownsRow base e imE.k (.slice a n cap) n (imE.flat l)) : l.length = n:=by
 have:=h.1;rw [imE.flat_length] at this;exact Nat.eq_of_mul_eq_mul_right (show 0 < imE.k by decide) this
theorem infoItem : (Tryz.prog.info? 32).map (fun i => (i.zero,i.size,i.bytes)) = some (some (.agg #[.string ByteArray.empty,.int .i64 0,.string ByteArray.empty]),3,40):=by kernel_rfl
structure Dd where
 kd : Int
 gn : Int
 nd : Int
 mn : Int
 ck : Int
 no : Int
 lk : ByteArray
 nm : ByteArray
 tm : Int
 bd : ByteArray
def ddD : Dd:=⟨0,0,0,0,0,0,ByteArray.empty,ByteArray.empty,0,ByteArray.empty⟩
def ddE : Enc Dd:=⟨10,fun e => [.int .i64 e.kd,.int .i64 e.gn,.int .i64 e.nd,.int .i64 e.mn,.int .i64 e.ck,.int .i64 e.no,.string e.lk,.string e.nm,.int .i64 e.tm,.string e.bd],fun _ => rfl,by intro x v hv;simp at hv;rcases hv with rfl | rfl | rfl | rfl | rfl | rfl | rfl | rfl | rfl | rfl <;> rfl⟩
structure Bk where
 c0 : Int
 c1 : Int
 c2 : Int
 c3 : Int
 ts : List Tm
 is : List Im
structure BkR (w : World) (a1 : Option Addr) (n1 a3 : Nat) (a2 : Option Addr) (n2 a4 : Nat) (ts : List Tm) (is : List Im) : Prop where
 t : TmR w a1 n1 a3 ts
 i : ImR w a2 n2 a4 is
theorem BkR.below {w w' : World} {a1 a2 : Option Addr} {n1 a3 n2 a4 : Nat} {ts : List Tm} {is : List Im} (h : BkR w a1 n1 a3 a2 n2 a4 ts is) (hb : Below w.heap.size w w') : BkR w' a1 n1 a3 a2 n2 a4 ts is:=⟨SR.below h.t hb,SR.below h.i hb⟩
structure BkO (w : World) (base : Nat) (a1 : Option Addr) (n1 a3 : Nat) (a2 : Option Addr) (n2 a4 : Nat) (ts : List Tm) (is : List Im) : Prop where
 t : w.ownsRow base 30 tmE.k (.slice a1 n1 a3) n1 (tmE.flat ts)
 i : w.ownsRow base 32 imE.k (.slice a2 n2 a4) n2 (imE.flat is)
theorem BkO.below {w w' : World} {base : Nat} {a1 a2 : Option Addr} {n1 a3 n2 a4 : Nat} {ts : List Tm} {is : List Im} (h : BkO w base a1 n1 a3 a2 n2 a4 ts is) (hb : Below w.heap.size w w') : BkO w' base a1 n1 a3 a2 n2 a4 ts is:=⟨own_below h.t hb,own_below h.i hb⟩
theorem BkO.read {w : World} {base : Nat} {a1 a2 : Option Addr} {n1 a3 n2 a4 : Nat} {ts : List Tm} {is : List Im} (h : BkO w base a1 n1 a3 a2 n2 a4 ts is) : BkR w a1 n1 a3 a2 n2 a4 ts is:=⟨TmR.own h.t,ImR.own h.i⟩
theorem BkO.mono {w : World} {base base' : Nat} {a1 a2 : Option Addr} {n1 a3 n2 a4 : Nat} {ts : List Tm} {is : List Im} (h : BkO w base a1 n1 a3 a2 n2 a4 ts is) (hb : base' <= base) : BkO w base' a1 n1 a3 a2 n2 a4 ts is:=⟨own_mono h.t hb,own_mono h.i hb⟩
theorem own_types {w : World} {base base' : Nat} {e e' : TypeId} {size size' : Nat} {v u : Value} {n m : Nat} {xs ys : List Value} (h : w.ownsRow base e size v n xs) (k : w.ownsRow base' e' size' u m ys) (he : e ≠ e') : Disj v u:=by
 intro g hg hu
 rcases h.2 with ⟨rfl,_⟩ | ⟨g1,c1,cur1,rfl,_,hh1,_⟩
 · simp [Value.ownBlock] at hg
 · rcases k.2 with ⟨rfl,_⟩ | ⟨g2,c2,cur2,rfl,_,hh2,_⟩
   · simp [Value.ownBlock] at hu
   · simp only [Value.ownBlock,Option.some.injEq] at hg hu
     subst hg
     subst hu
     rw [hh1] at hh2
     simp only [Option.some.injEq,Obj.cells.injEq] at hh2
     exact he hh2.2.1
def NewBook (c0 c1 c2 c3 : Int) (ts : List Tm) (is : List Im) (w : World) (e : Ending) (w' : World) : Prop :=
 ∃ a1 n1 a3 a2 n2 a4,e = .returned (.agg #[.int .i64 c0,.int .i64 c1,.int .i64 c2,.int .i64 c3,.slice a1 n1 a3,.slice a2 n2 a4]) /\ BkO w' w.heap.size a1 n1 a3 a2 n2 a4 ts is /\ Below w.heap.size w w'
theorem BkO.len {w : World} {base : Nat} {a1 a2 : Option Addr} {n1 a3 n2 a4 : Nat} {ts : List Tm} {is : List Im} (h : BkO w base a1 n1 a3 a2 n2 a4 ts is) : ts.length = n1 /\ is.length = n2:=⟨TmR.olen h.t,ImR.olen h.i⟩
end Go.Proofs.YtbgoldeopmlbnaaGreatDoor
