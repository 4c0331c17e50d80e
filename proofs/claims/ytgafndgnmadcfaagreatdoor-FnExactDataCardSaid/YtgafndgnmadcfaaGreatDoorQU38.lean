/- Used by the law. -/
import Derived.Test.YtgafndgnmadcfaaGreatDoorCards
import Derived.Test.YtgafndgnmadcfaaGreatDoorTie
import Derived.LaidHandle
import Derived.Deep.DeepHandedRow
import Derived.Test.YtgafndgnmadcfaaGreatDoorQU37
set_option maxRecDepth 100000
set_option maxHeartbeats 16000000
namespace Go.Proofs.YtgafndgnmadcfaaGreatDoor
open Go.RowKit Go.PlainAid G MGF IRow
set_option linter.unusedVariables false
structure VP where
 ds : ByteArray
 dt : ByteArray
 c0 : Int
 c1 : Int
 c2 : Int
 c3 : Int
 n1 : Nat
 n2 : Nat
 ts : List Tm
 is : List Im
 op : Bool
 ma : ByteArray
 gn : Nat
 gs : List Ev
 no : Int
 on : Bool
 nd : Int
 mn : Int
 rn : Nat
 rs : List Ev
def VV (p : VP) (v : Value) (u : World) : Prop:=∃ (b1 : Option Addr) (b3 : Nat) (b2 : Option Addr) (b4 : Nat) (g1 : Option Addr) (g2 : Nat) (r1 : Option Addr) (r2 : Nat),v = .agg #[.string p.ds,.string p.dt,.int .i64 p.c0,.int .i64 p.c1,.int .i64 p.c2,.int .i64 p.c3,.slice b1 p.n1 b3,.slice b2 p.n2 b4,.bool p.op,.string p.ma,.slice g1 p.gn g2,.int .i64 p.no,.bool p.on,.int .i64 p.nd,.int .i64 p.mn,.slice r1 p.rn r2] /\ VR u b1 p.n1 b3 b2 p.n2 b4 p.ts p.is g1 p.gn g2 p.gs r1 p.rn r2 p.rs
def VN (p : VP) (v : Value) (base : Nat) (u : World) : Prop:=∃ (b1 : Option Addr) (b3 : Nat) (b2 : Option Addr) (b4 : Nat) (g1 : Option Addr) (g2 : Nat) (r1 : Option Addr) (r2 : Nat),v = .agg #[.string p.ds,.string p.dt,.int .i64 p.c0,.int .i64 p.c1,.int .i64 p.c2,.int .i64 p.c3,.slice b1 p.n1 b3,.slice b2 p.n2 b4,.bool p.op,.string p.ma,.slice g1 p.gn g2,.int .i64 p.no,.bool p.on,.int .i64 p.nd,.int .i64 p.mn,.slice r1 p.rn r2] /\ VO u base b1 p.n1 b3 b2 p.n2 b4 p.ts p.is g1 p.gn g2 p.gs r1 p.rn r2 p.rs
theorem VV.below {p : VP} {v : Value} {u u' : World} (h : VV p v u) (hb : Below u.heap.size u u') : VV p v u':=by
 obtain ⟨b1,b3,b2,b4,g1,g2,r1,r2,hv,hr⟩:=h
 exact ⟨b1,b3,b2,b4,g1,g2,r1,r2,hv,hr.below hb⟩
theorem VN.read {p : VP} {v : Value} {base : Nat} {u : World} (h : VN p v base u) : VV p v u:=by
 obtain ⟨b1,b3,b2,b4,g1,g2,r1,r2,hv,hr⟩:=h
 exact ⟨b1,b3,b2,b4,g1,g2,r1,r2,hv,hr.read⟩
def V16 (v : Value) : Prop:=∃ cs : List Value,cs.length = 16 /\ v = .agg cs.toArray /\ cs.all (·.oneCell') = true
theorem VV.cells {p : VP} {v : Value} {u : World} (h : VV p v u) : V16 v:=by
 obtain ⟨b1,b3,b2,b4,g1,g2,r1,r2,hv,hr⟩:=h
 exact ⟨_,rfl,hv,rfl⟩
def BV (v : Value) (u : World) (h : Nat) : Prop:=∃ cs : List Value,cs.length = 16 /\ v = .agg cs.toArray /\ BoxC u h cs
theorem BV.below {v : Value} {u u' : World} {h : Nat} (b : BV v u h) (hb : Below u.heap.size u u') : BV v u' h:=by
 obtain ⟨cs,h1,h2,h3⟩:=b
 exact ⟨cs,h1,h2,h3.below hb⟩
theorem BV.alloc {v : Value} {u : World} {h : Nat} (b : BV v u h) (o : Obj) : BV v (u.alloc o) h:=b.below ((Below.refl _ _).alloc (Nat.le_refl _) _)
def cellsV (v : Value) : Array Value:=v.cells
theorem BV.made {v : Value} (w : World) (hv : V16 v) (ty : TypeId) : BV v (w.alloc (.cells (cellsV v) ty)) w.heap.size:=by
 obtain ⟨cs,h1,rfl,h3⟩:=hv
 exact ⟨cs,h1,rfl,BoxC.made w cs.toArray ty⟩
theorem exec_box {P : Program} {o : Oper} {f : Operand -> Value} {w : World} {v : Value} (ty : TypeId) (x : Operand) (ho : o.op = .box ty x) (hx : f x = v) : (execOp f o).run P w = .ok (.value (.pointer (some ⟨w.heap.size,0,none⟩))) (w.alloc (.cells (cellsV v) ty)):=by
 unfold execOp cellsV
 simp [ho,hx,go_sem]
theorem exec_loadV {P : Program} {o : Oper} {f : Operand -> Value} {w : World} {h : Nat} {v : Value} (b : BV v w h) (ty : TypeId) (x : Operand) (ho : o.op = .load ty x) (hx : f x = .pointer (some ⟨h,0,none⟩)) (hr : rowIs P ty 16 = true) : (execOp f o).run P w = .ok (.value v) w:=by
 obtain ⟨cs,h1,rfl,h3⟩:=b
 exact exec_load h3 ty x 16 ho hx h1 hr
theorem list_loadV {P : Program} {ops : Array Oper} {Q : Exit -> Act -> World -> Prop} {rest : List Oper} {o : Oper} {a : Act} {w : World} {h : Nat} {v : Value} (b : BV v w h) (ty : TypeId) (x : Operand) (ho : o.op = .load ty x) (hg : o.guard = none) (hx : a.eval x = .pointer (some ⟨h,0,none⟩)) (hr : rowIs P ty 16 = true)
 (k : wpList P ops Q rest (a.put o.dst v) w) : wpList P ops Q (o :: rest) a w:=list_value hg (exec_loadV b ty x ho hx hr) k
def storeV (w : World) (h : Nat) (v : Value) : World:=w.setCells h 0 v.cells.toList
theorem storeV_grown (w : World) (h : Nat) (v : Value) : w.grownBy (storeV w h v) (some h):=setCells_grown _ _ _ _
theorem storeV_box {w : World} {h : Nat} {v : Value} {zs : List Value} (b : BoxC w h zs) (hz : zs.length = 16) (hv : V16 v) : BV v (storeV w h v) h:=by
 obtain ⟨cs,h1,rfl,h3⟩:=hv
 exact ⟨cs,h1,rfl,box_setCells b cs (by rw [h1,hz])⟩
theorem exec_storeV {P : Program} {o : Oper} {f : Operand -> Value} {w : World} {h : Nat} {v : Value} {zs : List Value} (b : BoxC w h zs) (hz : zs.length = 16) (hv : V16 v) (ty : TypeId) (x y : Operand) (ho : o.op = .store ty x y) (hx : f x = .pointer (some ⟨h,0,none⟩)) (hy : f y = v) (hr : rowIs P ty 16 = true) : (execOp f o).run P w = .ok .skip (storeV w h v):=by
 obtain ⟨cs,h1,rfl,h3⟩:=hv
 exact exec_store b ty x y 16 ho hx hy hz h1 h3 hr
theorem list_storeV {P : Program} {ops : Array Oper} {Q : Exit -> Act -> World -> Prop} {rest : List Oper} {o : Oper} {a : Act} {w : World} {h : Nat} {v : Value} {zs : List Value} (b : BoxC w h zs) (hz : zs.length = 16) (hv : V16 v) (ty : TypeId) (x y : Operand) (ho : o.op = .store ty x y) (hg : o.guard = none) (hx : a.eval x = .pointer (some ⟨h,0,none⟩)) (hy : a.eval y = v) (hr : rowIs P ty 16 = true)
 (k : wpList P ops Q rest (a.put o.dst undef) (storeV w h v)) : wpList P ops Q (o :: rest) a w:=list_skip hg (exec_storeV b hz hv ty x y ho hx hy hr) k
theorem allocV (w : World) : ∃ V,(∀ (f : Operand -> Value) (o : Oper),o.op = .alloc 47 -> (execOp f o).run Tryz.prog w = .ok (.value (.pointer (some ⟨w.heap.size,0,none⟩))) V) /\ (∃ zs : List Value,zs.length = 16 /\ BoxC V w.heap.size zs) /\ Below w.heap.size w V:=by
 refine ⟨w.alloc (.cells #[.string ⟨#[]⟩,.string ⟨#[]⟩,.int .i64 0,.int .i64 0,.int .i64 0,.int .i64 0,.slice none 0 0,.slice none 0 0,.bool false,.string ⟨#[]⟩,.slice none 0 0,.int .i64 0,.bool false,.int .i64 0,.int .i64 0,.slice none 0 0] 47),fun f o ho => exec_alloc 47 ho (by go_simp),⟨_,rfl,BoxC.made _ _ _⟩,(Below.refl _ _).alloc (Nat.le_refl _) _⟩
structure VGd (p : VP) : Prop where
 v : VG p.ds p.dt p.ma p.n1 p.n2 p.gn p.rn p.gs p.rs
structure VIn (p : VP) : Prop where
 d : p.ds.size <= maxLen /\ p.dt.size <= maxLen
 m : p.ma.size <= maxLen
 n : p.n1 <= maxLen /\ p.n2 <= maxLen /\ p.gn <= maxLen /\ p.rn <= maxLen
 bt : ∀ i,i < p.n1 -> TmG (p.ts.getD i tmD)
 bi : ∀ i,i < p.n2 -> ImG (p.is.getD i imD)
 gg : ∀ i,i < p.gn -> EvG (p.gs.getD i evD)
 rg : ∀ i,i < p.rn -> EvG (p.rs.getD i evD)
theorem szVaultV {p : VP} {v : Value} {u : World} (h : VV p v u) (hi : VIn p) :
 Calls Tryz.prog 7 #[v,.int .i64 1048576] u fun e u' => ∃ r : Int,e = .returned (.int .i64 r) /\ (r = -1 ∨ (0 <= r /\ r <= 1048576 /\ VGd p)) /\ Below u.heap.size u u':=by
 obtain ⟨b1,b3,b2,b4,g1,g2,r1,r2,rfl,hr⟩:=h
 refine (szVault_any p.ds p.dt p.c0 p.c1 p.c2 p.c3 p.op p.ma p.no p.on p.nd p.mn b1 p.n1 b3 b2 p.n2 b4 p.ts p.is g1 p.gn g2 p.gs r1 p.rn r2 p.rs u hr hi.d hi.m hi.n hi.bt hi.bi hi.gg hi.rg).mono ?_
 rintro e v1 ⟨r,rfl,hr,hb⟩
 refine ⟨r,rfl,?_,hb⟩
 rcases hr with rfl | ⟨rr0,rr1,⟨hs,hm⟩,hn,hgt,hrt⟩
 · exact .inl rfl
 · exact .inr ⟨rr0,rr1,⟨⟨hs,by unfold maxLen;omega,hn,fun t ht => by have:=hgt t ht;unfold maxLen;omega,fun t ht => by have:=hrt t ht;unfold maxLen;omega⟩⟩⟩
theorem toVaultV {p : VP} {v : Value} {u : World} (h : VV p v u) (hg : VGd p) :
 Calls Tryz.prog 9 #[v] u fun e u' => ∃ v',e = .returned v' /\ VN p v' u.heap.size u' /\ Below u.heap.size u u':=by
 obtain ⟨b1,b3,b2,b4,g1,g2,r1,r2,rfl,hr⟩:=h
 refine (toVault_any p.ds p.dt p.c0 p.c1 p.c2 p.c3 p.op p.ma p.no p.on p.nd p.mn b1 p.n1 b3 b2 p.n2 b4 p.ts p.is g1 p.gn g2 p.gs r1 p.rn r2 p.rs u hr hg.v.n.1 hg.v.n.2.1 hg.v.n.2.2.1 hg.v.n.2.2.2).mono ?_
 rintro e v1 ⟨d1,d3,d2,d4,h1,h2,k1,k2,rfl,ho,hb⟩
 exact ⟨_,rfl,⟨d1,d3,d2,d4,h1,h2,k1,k2,rfl,ho⟩,hb⟩
theorem eqVaultV {p : VP} {v v' : Value} {u : World} (h : VV p v u) (h' : VV p v' u) (hg : VGd p) :
 Calls Tryz.prog 11 #[v,v'] u fun e u' => e = .returned (.bool true) /\ Below u.heap.size u u':=by
 obtain ⟨b1,b3,b2,b4,g1,g2,r1,r2,rfl,hr⟩:=h
 obtain ⟨d1,d3,d2,d4,h1,h2,k1,k2,rfl,hr'⟩:=h'
 exact eqVault_same p.ds p.dt p.c0 p.c1 p.c2 p.c3 p.op p.ma p.no p.on p.nd p.mn b1 p.n1 b3 b2 p.n2 b4 p.ts p.is g1 p.gn g2 p.gs r1 p.rn r2 p.rs d1 d3 d2 d4 h1 h2 k1 k2 u hr hr' hg.v.n.1 hg.v.n.2.1 hg.v.n.2.2.1 hg.v.n.2.2.2
def VP.right (p : VP) : Bool:=vaultB p.ds p.dt p.c0 p.c1 p.c2 p.c3 p.op p.ma p.no p.on p.nd p.mn p.ts p.is p.gs p.rs
theorem specVaultRightV {p : VP} {v : Value} {u : World} (h : VV p v u) (hg : VGd p) :
 Calls Tryz.prog 8 #[v] u fun e u' => e = .returned (.bool p.right) /\ Below u.heap.size u u':=by
 obtain ⟨b1,b3,b2,b4,g1,g2,r1,r2,rfl,hr⟩:=h
 exact specVaultRight_any p.ds p.dt p.c0 p.c1 p.c2 p.c3 p.op p.ma p.no p.on p.nd p.mn b1 p.n1 b3 b2 p.n2 b4 p.ts p.is g1 p.gn g2 p.gs r1 p.rn r2 p.rs u hr hg.v
theorem implVaultRightV {p : VP} {v : Value} {u : World} (h : VV p v u) (hg : VGd p) (he : ET u) :
 Calls Tryz.prog 10 #[v] u fun e u' => e = .returned (.bool p.right) /\ Below u.heap.size u u':=by
 obtain ⟨b1,b3,b2,b4,g1,g2,r1,r2,rfl,hr⟩:=h
 exact implVaultRight_any p.ds p.dt p.c0 p.c1 p.c2 p.c3 p.op p.ma p.no p.on p.nd p.mn b1 p.n1 b3 b2 p.n2 b4 p.ts p.is g1 p.gn g2 p.gs r1 p.rn r2 p.rs u hr hg.v he
def VP.cur (p : VP) (eg en em ex : Int) (et : ByteArray) : Bool:=curB p.right p.c0 p.c1 p.c2 eg en em ex et
theorem specCurrentV {p : VP} {v : Value} {u : World} (eg en em ex : Int) (et : ByteArray) (h : VV p v u) (hg : VGd p) (ht : et.size <= maxLen) :
 Calls Tryz.prog 28 #[v,.agg #[.int .i64 eg,.int .i64 en,.int .i64 em,.int .i64 ex,.string et]] u fun e u' => e = .returned (.bool (p.cur eg en em ex et)) /\ Below u.heap.size u u':=by
 obtain ⟨b1,b3,b2,b4,g1,g2,r1,r2,rfl,hr⟩:=h
 exact specCurrent_any p.ds p.dt p.c0 p.c1 p.c2 p.c3 p.op p.ma p.no p.on p.nd p.mn b1 p.n1 b3 b2 p.n2 b4 p.ts p.is g1 p.gn g2 p.gs r1 p.rn r2 p.rs eg en em ex et u hr hg.v ht
theorem implCurrentV {p : VP} {v : Value} {u : World} (eg en em ex : Int) (et : ByteArray) (h : VV p v u) (hg : VGd p) (he : ET u) (ht : et.size <= maxLen) :
 Calls Tryz.prog 30 #[v,.agg #[.int .i64 eg,.int .i64 en,.int .i64 em,.int .i64 ex,.string et]] u fun e u' => e = .returned (.bool (p.cur eg en em ex et)) /\ Below u.heap.size u u':=by
 obtain ⟨b1,b3,b2,b4,g1,g2,r1,r2,rfl,hr⟩:=h
 exact implCurrent_any p.ds p.dt p.c0 p.c1 p.c2 p.c3 p.op p.ma p.no p.on p.nd p.mn b1 p.n1 b3 b2 p.n2 b4 p.ts p.is g1 p.gn g2 p.gs r1 p.rn r2 p.rs eg en em ex et u hr hg.v he ht
theorem vault_named {w : World} {ds dt : ByteArray} {c0 c1 c2 c3 : Int} {a1 : Option Addr} {n1 a3 : Nat} {a2 : Option Addr} {n2 a4 : Nat} {ts : List Tm} {is : List Im} {op : Bool} {ma : ByteArray} {g1 : Option Addr} {gn g2 : Nat} {gs : List Ev} {no : Int} {on : Bool} {nd mn : Int} {r1 : Option Addr} {rn r2 : Nat} {rs : List Ev} (h : VtR w ds dt a1 n1 a3 a2 n2 a4 ts is ma g1 gn g2 gs r1 rn r2 rs) :
 ∃ p : VP,VIn p /\ VV p (.agg #[.string ds,.string dt,.int .i64 c0,.int .i64 c1,.int .i64 c2,.int .i64 c3,.slice a1 n1 a3,.slice a2 n2 a4,.bool op,.string ma,.slice g1 gn g2,.int .i64 no,.bool on,.int .i64 nd,.int .i64 mn,.slice r1 rn r2]) w :=
 ⟨⟨ds,dt,c0,c1,c2,c3,n1,n2,ts,is,op,ma,gn,gs,no,on,nd,mn,rn,rs⟩,⟨h.d,h.m,⟨h.bn.1,h.bn.2,h.gnb,h.rnb⟩,h.bt,h.bi,h.gg,h.rg⟩,⟨a1,a3,a2,a4,g1,g2,r1,r2,rfl,⟨h.b,h.g,h.r⟩⟩⟩
end Go.Proofs.YtgafndgnmadcfaaGreatDoor
namespace Go.Proofs.YtgafndgnmadcfaaGreatDoor
open Go.ChangeShapes Go.WideShapes Go.RowKit
theorem door_own : ownKnob Tryz.prog.godebug = none:=by kernel_rfl
theorem door_et : Tryz.prog.globalNamed "errors.errorType" = some 0 := by kernel_rfl
theorem door_rt : (Tryz.prog.cutTypes.find? (·.1 == "internal/reflectlite.rtype")).map (·.2) = some 373 := by kernel_rfl
theorem door_oneRow : ((List.range 466).filter fun t => Tryz.prog.rowNamed t [101,114,114,111,114]) = [235]:=by kernel_rfl
theorem door_size : Tryz.prog.types.size = 466:=by kernel_rfl
def laidL : List (String × DataW Unit) := [("errors.errorType", Rows.laid_errors_errorType)]
theorem et_of_laid {W : World} (h : laidMetH Tryz.prog laidL W) : ET W:=by
 have h' : laidMet Tryz.prog [] W /\ handlesMet Tryz.prog laidL W:=h
 obtain ⟨name,u,ty,e1,e2,e3,e4,e5⟩:=h'.2 _ (List.mem_singleton.2 rfl)
 have en : name = [101,114,114,111,114]:=(Option.some.inj e1).symm
 subst en
 obtain rfl:=Option.some.inj (door_rt.symm.trans e2)
 have hm : ty ∈ (List.range 466).filter fun t => Tryz.prog.rowNamed t [101,114,114,111,114]:=List.mem_filter.2 ⟨List.mem_range.2 (by rw [<- door_size];exact e3),e4⟩
 rw [door_oneRow] at hm
 obtain rfl:=List.mem_singleton.1 hm
 have hh : typeHandle Tryz.prog 235 = .pointer (some ⟨4,235,none⟩):=by kernel_rfl
 rw [hh] at e5
 unfold ET
 simpa using World.var?_cell door_et e5 0
noncomputable def laidWorld (os : Os) : World :=
 { World.holding Tryz.prog os ⟨#[],#[],[]⟩ with heap:=(World.holding Tryz.prog os ⟨#[],#[],[]⟩).heap.modify 0 fun
  | .cells _ t frozen => .cells #[.iface 373 (.agg #[.pointer (some ⟨4,235,none⟩)])] t frozen
  | o => o }
theorem laidWorld_met (os : Os) (args : Array Value) : laidMetH Tryz.prog laidL ((laidWorld os).forCall (fun _ _ => 0) ⟨#[],args,[]⟩).memory :=
 laidMetH_of_parts (laidMet_nil _ _) (by kernel_rfl)
end Go.Proofs.YtgafndgnmadcfaaGreatDoor
namespace Go.Proofs.YtgafndgnmadcfaaGreatDoor
open Go.RowKit Go.PlainAid G MGF IRow
set_option linter.unusedVariables false
structure Spared (lo hi : Nat) (w w' : World) : Prop where
 size : w.heap.size <= w'.heap.size
 row : ∀ (base : Nat) (e : TypeId) (size : Nat) (v : Value) (n : Nat) (xs : List Value),w.ownsRow base e size v n xs -> (∀ q,v.ownBlock = some q -> q < lo ∨ hi <= q) -> w'.ownsRow base e size v n xs
 box : ∀ (h : Nat) (cs : List Value),BoxC w h cs -> (h < lo ∨ hi <= h) -> BoxC w' h cs
 low : ∀ (B : Nat) (w0 : World),B <= lo -> B <= w.heap.size -> Below B w0 w -> Below B w0 w'
theorem Spared.of_below {lo hi : Nat} {w w' : World} (hb : Below w.heap.size w w') : Spared lo hi w w' :=
 ⟨hb.size,fun _ _ _ _ _ _ h _ => own_below h hb,fun _ _ h _ => h.below hb,fun _ _ _ h2 h => h.trans (hb.mono h2)⟩
theorem Spared.of_grown {lo hi : Nat} {w w' : World} {r : Option Nat} (hg : w.grownBy w' r) (hr : ∀ q,r = some q -> lo <= q /\ q < hi) : Spared lo hi w w':=by
 refine ⟨hg.size,fun base e size v n xs h hne => h.kept hg ?_,fun h cs b hne => b.grown hg (fun e => by have:=hr h e.symm;omega),fun B w0 h1 h2 hb => hb.grown hg h2 (fun q hq => by have:=(hr q hq).1;omega)⟩
 cases hv : v.ownBlock with
 | none => exact .inl rfl
 | some g => exact .inr (fun h2 => by have:=hr g h2.symm;have:=hne g hv;omega)
theorem Spared.trans {lo hi : Nat} {w w1 w2 : World} (h : Spared lo hi w w1) (k : Spared lo hi w1 w2) : Spared lo hi w w2 :=
 ⟨Nat.le_trans h.size k.size,fun b e s v n xs hx hn => k.row b e s v n xs (h.row b e s v n xs hx hn) hn,fun q cs b hn => k.box q cs (h.box q cs b hn) hn,fun B w0 h1 h2 hb => k.low B w0 h1 (Nat.le_trans h2 h.size) (h.low B w0 h1 h2 hb)⟩
theorem markRekey_any (on : Bool) (nd mn : Int) (r1 : Option Addr) (base rn r2 : Nat) (rs : List Ev) (k0 lo hi : Nat) (w : World) (h : w.ownsRow base 71 evE.k (.slice r1 rn r2) rn (evE.flat rs)) (hn : rn <= 1048576) (hk0 : 0 < k0) (hk1 : k0 <= 1099511627776) (hq : ∀ q,(Value.slice r1 rn r2).ownBlock = some q -> lo <= q /\ q < hi) :
 Calls Tryz.prog 60 #[.agg #[.bool on,.int .i64 nd,.int .i64 mn,.slice r1 rn r2],.int .i64 (k0 : Int)] w fun e w' => e = .returned (.int .i64 ((k0 : Int) + 5 * (rn : Int))) /\ Spared lo hi w w':=by
 obtain ⟨W,hW⟩ : ∃ W,W = w.alloc (.cells #[.bool on,.int .i64 nd,.int .i64 mn,.slice r1 rn r2] 45):=⟨_,rfl⟩
 have hB0 : Below w.heap.size w W:=by rw [hW];exact (Below.refl _ _).alloc (Nat.le_refl _) _
 have HX:=qH (show BoxC W w.heap.size [.bool on,.int .i64 nd,.int .i64 mn,.slice r1 rn r2] by rw [hW];exact BoxC.made _ _ _)
 have HO:=qH (own_below h hB0)
 have HB0:=qH hB0
 have HQ:=qH hq
 clear h hB0 hq
 go_enter Tryz.func60,Tryz.ntmps60
 go_upto_region 1 with fail
 rw [<- hW]
 clear hW
 have x3:=HX.out.cell 3 _ rfl
 go_wp2_with fail
 refine (markEnvS_any r1 base rn r2 rs k0 W HO.out hn hk0 hk1).mono ?_
 rintro e w1 ⟨rfl,_,hg⟩
 have HS:=qH ((Spared.of_below HB0.out).trans (Spared.of_grown hg HQ.out))
 clear hg x3
 go_wp2_with fail
 go_ret
 exact ⟨rfl,HS.out⟩
theorem markVaultV {p : VP} {v : Value} {base : Nat} {u w : World} (h : VN p v base u) (hb : Below u.heap.size u w) (hgd : VGd p) :
 Calls Tryz.prog 15 #[v,.int .i64 1] w fun e w' => ∃ r : Int,e = .returned (.int .i64 r) /\ ¬ r < 0 /\ Spared base u.heap.size w w':=by
 obtain ⟨b1,b3,b2,b4,g1,g2,r1,r2,hva,ho⟩:=h
 have HVA:=qH hva
 have HN:=qH hgd.v.n
 have HQ1 : Hid (∀ q,(Value.slice b1 p.n1 b3).ownBlock = some q -> base <= q /\ q < u.heap.size):=qH (fun q hq => ho.b.t.lt q hq)
 have HQ2 : Hid (∀ q,(Value.slice b2 p.n2 b4).ownBlock = some q -> base <= q /\ q < u.heap.size):=qH (fun q hq => ho.b.i.lt q hq)
 have HQ3 : Hid (∀ q,(Value.slice g1 p.gn g2).ownBlock = some q -> base <= q /\ q < u.heap.size):=qH (fun q hq => ho.g.lt q hq)
 have HQ4 : Hid (∀ q,(Value.slice r1 p.rn r2).ownBlock = some q -> base <= q /\ q < u.heap.size):=qH (fun q hq => ho.r.lt q hq)
 have hD1 : Disj (.slice g1 p.gn g2) (.slice b1 p.n1 b3):=own_types ho.g ho.b.t (by decide)
 have hD2 : Disj (.slice g1 p.gn g2) (.slice b2 p.n2 b4):=own_types ho.g ho.b.i (by decide)
 have hD3 : Disj (.slice r1 p.rn r2) (.slice b1 p.n1 b3):=own_types ho.r ho.b.t (by decide)
 have hD4 : Disj (.slice r1 p.rn r2) (.slice b2 p.n2 b4):=own_types ho.r ho.b.i (by decide)
 have HD:=qH (And.intro hD1 (And.intro hD2 (And.intro hD3 (And.intro hD4 ho.d.symm))))
 obtain ⟨W,hW⟩ : ∃ W,W = w.alloc (.cells (cellsV v) 47):=⟨_,rfl⟩
 have hB0 : Below w.heap.size w W:=by rw [hW];exact (Below.refl _ _).alloc (Nat.le_refl _) _
 have HX:=qH (show BoxC W w.heap.size [.string p.ds,.string p.dt,.int .i64 p.c0,.int .i64 p.c1,.int .i64 p.c2,.int .i64 p.c3,.slice b1 p.n1 b3,.slice b2 p.n2 b4,.bool p.op,.string p.ma,.slice g1 p.gn g2,.int .i64 p.no,.bool p.on,.int .i64 p.nd,.int .i64 p.mn,.slice r1 p.rn r2] by rw [hW,HVA.out];exact BoxC.made _ _ _)
 have hUW:=hb.trans (hB0.mono hb.size)
 have HOW:=qH (ho.below hUW)
 have HUS : Hid (u.heap.size <= w.heap.size):=qH hb.size
 have HS0 : Hid (Spared base u.heap.size w W):=qH (Spared.of_below hB0)
 clear hD1 hD2 hD3 hD4 hB0 hUW hb ho hva hgd
 go_enter Tryz.func15,Tryz.ntmps15
 go_upto_region 1 with (refine list_value rfl (exec_box (v:=v) 47 _ rfl rfl) ?_;simp only [pS,pN,List.set,zT,zZ,zU])
 rw [<- hW]
 clear hW HVA
 have x2:=HX.out.cell 2 _ rfl
 have x3:=HX.out.cell 3 _ rfl
 have x4:=HX.out.cell 4 _ rfl
 have x5:=HX.out.cell 5 _ rfl
 have x6:=HX.out.cell 6 _ rfl
 have x7:=HX.out.cell 7 _ rfl
 go_wp2_with fail
 clear x2 x3 x4 x5 x6 x7
 refine (markBook_any p.c0 p.c1 p.c2 p.c3 b1 b2 base p.n1 p.n2 b3 b4 p.ts p.is 1 W HOW.out.b HN.out.1 HN.out.2.1 (by omega) (by omega)).mono ?_
 rintro e w2 ⟨rfl,_,w1,hg1,hg2⟩
 have hS1:=(Spared.of_grown (lo:=base) (hi:=u.heap.size) hg1 HQ1.out).trans (Spared.of_grown hg2 HQ2.out)
 have HS1:=qH (HS0.out.trans hS1)
 have HX1:=qH (hS1.box _ _ HX.out (.inr HUS.out))
 have HG1:=qH (own_grown (own_grown HOW.out.g hg1 HD.out.1) hg2 HD.out.2.1)
 have HR1:=qH (own_grown (own_grown HOW.out.r hg1 HD.out.2.2.1) hg2 HD.out.2.2.2.1)
 clear hg1 hg2 hS1 HX HS0 HOW
 have x10:=HX1.out.cell 10 _ rfl
 have hk : ∃ k : Nat,((1 : Nat) : Int) + 2 * (p.n1 : Int) + 3 * (p.n2 : Int) = (k : Int) /\ 0 < k /\ k <= 8388608:=⟨1 + 2 * p.n1 + 3 * p.n2,by omega,by omega,by have:=HN.out;omega⟩
 obtain ⟨k,hke,hk0,hk1⟩:=hk
 rw [hke]
 clear hke
 go_wp2_with fail
 refine (markEnvS_any g1 base p.gn g2 p.gs k w2 HG1.out HN.out.2.2.1 hk0 (by omega)).mono ?_
 rintro e w3 ⟨rfl,_,hg⟩
 have hS2:=Spared.of_grown (lo:=base) (hi:=u.heap.size) hg HQ3.out
 have HS2:=qH (HS1.out.trans hS2)
 have HX2:=qH (hS2.box _ _ HX1.out (.inr HUS.out))
 have HR2:=qH (own_grown HR1.out hg HD.out.2.2.2.2)
 clear hg hS2 HX1 HS1 HG1 HR1 x10
 have x12:=HX2.out.cell 12 _ rfl
 have x13:=HX2.out.cell 13 _ rfl
 have x14:=HX2.out.cell 14 _ rfl
 have x15:=HX2.out.cell 15 _ rfl
 have hm : ∃ m : Nat,(k : Int) + 5 * (p.gn : Int) = (m : Int) /\ 0 < m /\ m <= 16777216:=⟨k + 5 * p.gn,by omega,by omega,by have:=HN.out;omega⟩
 obtain ⟨m,hme,hm0,hm1⟩:=hm
 rw [hme]
 clear hme
 go_wp2_with fail
 refine (markRekey_any p.on p.nd p.mn r1 base p.rn r2 p.rs m base u.heap.size w3 HR2.out HN.out.2.2.2 hm0 (by omega) HQ4.out).mono ?_
 rintro e w4 ⟨rfl,hs⟩
 have HS3:=qH (HS2.out.trans hs)
 clear hs x12 x13 x14 x15
 go_wp2_with fail
 go_ret
 exact ⟨_,rfl,by omega,HS3.out⟩
end Go.Proofs.YtgafndgnmadcfaaGreatDoor
