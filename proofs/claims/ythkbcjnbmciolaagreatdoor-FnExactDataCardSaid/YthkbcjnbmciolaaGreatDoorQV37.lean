/- Used by the law. -/
import Derived.Deep.MidRow
import Derived.Test.YthkbcjnbmciolaaGreatDoorQV36
set_option maxRecDepth 100000
set_option maxHeartbeats 16000000
namespace Go.Proofs.YthkbcjnbmciolaaGreatDoor
open Go.ChangeShapes Go.WideShapes Go.RowKit G IRow
set_option linter.unusedVariables false
theorem cellsI64v : Tryz.prog.cellsOf 2 = 1:=by kernel_rfl
theorem cellsStrv : Tryz.prog.cellsOf 9 = 1:=by kernel_rfl
theorem cellsDiskv : Tryz.prog.cellsOf 23 = 2:=by kernel_rfl
theorem openDiskv {H : Type} {enc : TypeId × Value -> H} {u : World} {base : Nat} {spare : Nat -> Bool} {held : Bool} {fuel : Nat} {cs : List Value} {x : DataW H × List MemPlace} (h : DataW.trod enc Tryz.prog u base spare held fuel 23 cs = some x) :
 ∃ (q0 : ByteArray) (q1 : ByteArray),cs = [.string q0,.string q1] /\ x = (.agg [.lit (.string q0.data.toList),.lit (.string q1.data.toList)],[]) /\ q0.size <= maxLen /\ q1.size <= maxLen:=by
 obtain ⟨xs,n,_,hx,hl0,hlen,hg⟩:=DataW.trod_struct Tryz.underlying23 h
 have hl : cs.length = 2:=hl0.trans cellsDiskv
 have hlen2 : xs.length = 2:=hlen
 match cs,hl,xs,hlen2 with
 | [a0,a1],_,[y0,y1],_ =>
  have r0:=hg 0 _ rfl
  have r1:=hg 1 _ rfl
  simp [cellsStrv] at r0 r1
  obtain ⟨q0,e0,z0,w0⟩:=DataW.trod_string Tryz.underlying9 r0
  obtain ⟨q1,e1,z1,w1⟩:=DataW.trod_string Tryz.underlying9 r1
  simp only [List.cons.injEq,and_true] at e0 e1
  subst e0 e1 z0 z1
  exact ⟨q0,q1,rfl,by rw [hx];rfl,w0,w1⟩
theorem cellsEnvv : Tryz.prog.cellsOf 88 = 5:=by kernel_rfl
theorem openEnvv {H : Type} {enc : TypeId × Value -> H} {u : World} {base : Nat} {spare : Nat -> Bool} {held : Bool} {fuel : Nat} {cs : List Value} {x : DataW H × List MemPlace} (h : DataW.trod enc Tryz.prog u base spare held fuel 88 cs = some x) :
 ∃ (q0 : Int) (q1 : Int) (q2 : Int) (q3 : Int) (q4 : ByteArray),cs = [.int .i64 q0,.int .i64 q1,.int .i64 q2,.int .i64 q3,.string q4] /\ x = (.agg [.lit (.int .i64 q0),.lit (.int .i64 q1),.lit (.int .i64 q2),.lit (.int .i64 q3),.lit (.string q4.data.toList)],[]) /\ (Lit.int .i64 q0).wf = true /\ (Lit.int .i64 q1).wf = true /\ (Lit.int .i64 q2).wf = true /\ (Lit.int .i64 q3).wf = true /\ q4.size <= maxLen:=by
 obtain ⟨xs,n,_,hx,hl0,hlen,hg⟩:=DataW.trod_struct Tryz.underlying88 h
 have hl : cs.length = 5:=hl0.trans cellsEnvv
 have hlen2 : xs.length = 5:=hlen
 match cs,hl,xs,hlen2 with
 | [a0,a1,a2,a3,a4],_,[y0,y1,y2,y3,y4],_ =>
  have r0:=hg 0 _ rfl
  have r1:=hg 1 _ rfl
  have r2:=hg 2 _ rfl
  have r3:=hg 3 _ rfl
  have r4:=hg 4 _ rfl
  simp [cellsI64v,cellsStrv] at r0 r1 r2 r3 r4
  obtain ⟨q0,e0,z0,w0⟩:=DataW.trod_int Tryz.underlying2 r0
  obtain ⟨q1,e1,z1,w1⟩:=DataW.trod_int Tryz.underlying2 r1
  obtain ⟨q2,e2,z2,w2⟩:=DataW.trod_int Tryz.underlying2 r2
  obtain ⟨q3,e3,z3,w3⟩:=DataW.trod_int Tryz.underlying2 r3
  obtain ⟨q4,e4,z4,w4⟩:=DataW.trod_string Tryz.underlying9 r4
  simp only [List.cons.injEq,and_true] at e0 e1 e2 e3 e4
  subst e0 e1 e2 e3 e4 z0 z1 z2 z3 z4
  exact ⟨q0,q1,q2,q3,q4,rfl,by rw [hx];rfl,w0,w1,w2,w3,w4⟩
instance : Inhabited Ev:=⟨evD⟩
def EvG (p : Ev) : Prop:=p.t.size <= maxLen
theorem cellsEnvSv : Tryz.prog.cellsOf 30 = 1:=by kernel_rfl
theorem cellsBoolv : Tryz.prog.cellsOf 4 = 1:=by kernel_rfl
theorem cellsRekeyv : Tryz.prog.cellsOf 32 = 4:=by kernel_rfl
theorem cellsVaultv : Tryz.prog.cellsOf 34 = 16:=by kernel_rfl
theorem cellsBookv : Tryz.prog.cellsOf 29 = 6:=by kernel_rfl
theorem cellsTermSv : Tryz.prog.cellsOf 26 = 1:=by kernel_rfl
theorem cellsItemSv : Tryz.prog.cellsOf 27 = 1:=by kernel_rfl
theorem openEnvSv {H : Type} {enc : TypeId × Value -> H} {u : World} {base : Nat} {spare : Nat -> Bool} {held : Bool} {fuel : Nat} {cs : List Value} {x : DataW H × List MemPlace} (h : DataW.trod enc Tryz.prog u base spare held fuel 30 cs = some x) :
 ∃ (a : Option Addr) (len cap : Nat) (ps : List Ev),cs = [.slice a len cap] /\ ER u a len cap ps /\ len <= maxLen /\ ∀ i,i < len -> EvG (ps.getD i evD) :=
 open_rows evE evD EvG Tryz.underlying30 cellsEnvv (by decide) (fun f cs x hx => by
  obtain ⟨q0,q1,q2,q3,q4,rfl,_,w0,w1,w2,w3,w4⟩:=openEnvv hx
  exact ⟨⟨q0,q1,q2,q3,q4⟩,rfl,w4⟩) h
theorem openBookv {H : Type} {enc : TypeId × Value -> H} {u : World} {base : Nat} {spare : Nat -> Bool} {held : Bool} {fuel : Nat} {cs : List Value} {x : DataW H × List MemPlace} (h : DataW.trod enc Tryz.prog u base spare held fuel 29 cs = some x) :
 ∃ (c0 c1 c2 c3 : Int) (a1 : Option Addr) (n1 a3 : Nat) (a2 : Option Addr) (n2 a4 : Nat) (ts : List Tm) (is : List Im),cs = [.int .i64 c0,.int .i64 c1,.int .i64 c2,.int .i64 c3,.slice a1 n1 a3,.slice a2 n2 a4] ∧
  BkR u a1 n1 a3 a2 n2 a4 ts is /\ (n1 <= maxLen /\ n2 <= maxLen) /\ (∀ i,i < n1 -> TmG (ts.getD i tmD)) /\ ∀ i,i < n2 -> ImG (is.getD i imD):=by
 obtain ⟨xs,k,_,hx,hl0,hlen,hg⟩:=DataW.trod_struct Tryz.underlying29 h
 have hl6 : cs.length = 6:=hl0.trans cellsBookv
 have hlen3 : xs.length = 3:=hlen
 match cs,hl6,xs,hlen3 with
 | [z0,z1,z2,z3,z4,z5],_,[y0,y1,y2],_ =>
  have r0:=hg 0 _ rfl
  have r1:=hg 1 _ rfl
  have r2:=hg 2 _ rfl
  simp [cellsConf,cellsTermSv,cellsItemSv] at r0 r1 r2
  obtain ⟨c0,c1,c2,c3,e0,_,_⟩:=openConf r0
  obtain ⟨a1,n1,a3,ts,e1,ht,hn1,hg1⟩:=openTermS r1
  obtain ⟨a2,n2,a4,is,e2,hi,hn2,hg2⟩:=openItemS r2
  simp only [List.cons.injEq,and_true] at e0 e1 e2
  obtain ⟨rfl,rfl,rfl,rfl⟩:=e0
  subst e1 e2
  exact ⟨c0,c1,c2,c3,a1,n1,a3,a2,n2,a4,ts,is,rfl,⟨ht,hi⟩,⟨hn1,hn2⟩,hg1,hg2⟩
theorem openRekeyv {H : Type} {enc : TypeId × Value -> H} {u : World} {base : Nat} {spare : Nat -> Bool} {held : Bool} {fuel : Nat} {cs : List Value} {x : DataW H × List MemPlace} (h : DataW.trod enc Tryz.prog u base spare held fuel 32 cs = some x) :
 ∃ (on : Bool) (nd mn : Int) (a : Option Addr) (n c : Nat) (ps : List Ev),cs = [.bool on,.int .i64 nd,.int .i64 mn,.slice a n c] /\ ((Lit.int .i64 nd).wf = true /\ (Lit.int .i64 mn).wf = true) /\ ER u a n c ps /\ n <= maxLen /\ ∀ i,i < n -> EvG (ps.getD i evD):=by
 obtain ⟨xs,k,_,hx,hl0,hlen,hg⟩:=DataW.trod_struct Tryz.underlying32 h
 have hl4 : cs.length = 4:=hl0.trans cellsRekeyv
 have hlen4 : xs.length = 4:=hlen
 match cs,hl4,xs,hlen4 with
 | [z0,z1,z2,z3],_,[y0,y1,y2,y3],_ =>
  have r0:=hg 0 _ rfl
  have r1:=hg 1 _ rfl
  have r2:=hg 2 _ rfl
  have r3:=hg 3 _ rfl
  simp [cellsBoolv,cellsI64v,cellsEnvSv] at r0 r1 r2 r3
  obtain ⟨on,e0,_⟩:=DataW.trod_bool Tryz.underlying4 r0
  obtain ⟨nd,e1,_,w1⟩:=DataW.trod_int Tryz.underlying2 r1
  obtain ⟨mn,e2,_,w2⟩:=DataW.trod_int Tryz.underlying2 r2
  obtain ⟨a,n,c,ps,e3,hr,hn,hgd⟩:=openEnvSv r3
  simp only [List.cons.injEq,and_true] at e0 e1 e2 e3
  subst e0 e1 e2 e3
  exact ⟨on,nd,mn,a,n,c,ps,rfl,⟨w1,w2⟩,hr,hn,hgd⟩
structure VtR (w : World) (ds dt : ByteArray) (a1 : Option Addr) (n1 a3 : Nat) (a2 : Option Addr) (n2 a4 : Nat) (ts : List Tm) (is : List Im) (ma : ByteArray) (ga : Option Addr) (gn gc : Nat) (gs : List Ev) (ra : Option Addr) (rn rc : Nat) (rs : List Ev) : Prop where
 d : ds.size <= maxLen /\ dt.size <= maxLen
 b : BkR w a1 n1 a3 a2 n2 a4 ts is
 bn : n1 <= maxLen /\ n2 <= maxLen
 bt : ∀ i,i < n1 -> TmG (ts.getD i tmD)
 bi : ∀ i,i < n2 -> ImG (is.getD i imD)
 m : ma.size <= maxLen
 g : ER w ga gn gc gs
 gnb : gn <= maxLen
 gg : ∀ i,i < gn -> EvG (gs.getD i evD)
 r : ER w ra rn rc rs
 rnb : rn <= maxLen
 rg : ∀ i,i < rn -> EvG (rs.getD i evD)
theorem vault_open {H : Type} {enc : TypeId × Value -> H} {w : World} {base b0 : Nat} {spare : Nat -> Bool} {held : Bool} {v : Value} {d : DataW H} {ps : List MemPlace}
 (hv : Value.okWide Tryz.prog w .any b0 34 v) (h : DataW.Trod enc Tryz.prog w base spare held 34 v d ps) :
 ∃ (ds dt : ByteArray) (c0 c1 c2 c3 : Int) (a1 : Option Addr) (n1 a3 : Nat) (a2 : Option Addr) (n2 a4 : Nat) (ts : List Tm) (is : List Im) (op : Bool) (ma : ByteArray) (ga : Option Addr) (gn gc : Nat) (gs : List Ev) (no : Int) (on : Bool) (nd mn : Int) (ra : Option Addr) (rn rc : Nat) (rs : List Ev),
  v = .agg #[.string ds,.string dt,.int .i64 c0,.int .i64 c1,.int .i64 c2,.int .i64 c3,.slice a1 n1 a3,.slice a2 n2 a4,.bool op,.string ma,.slice ga gn gc,.int .i64 no,.bool on,.int .i64 nd,.int .i64 mn,.slice ra rn rc] ∧
  VtR w ds dt a1 n1 a3 a2 n2 a4 ts is ma ga gn gc gs ra rn rc rs /\ ((Lit.int .i64 no).wf = true /\ (Lit.int .i64 nd).wf = true /\ (Lit.int .i64 mn).wf = true):=by
 obtain ⟨⟨l⟩,rfl,hsz⟩:=okWide_struct Tryz.underlying34 hv
 have hl16 : l.length = 16:=hsz.trans cellsVaultv
 obtain ⟨fuel,hf⟩:=h
 obtain ⟨xs,k,_,hx,_,hlen,hg⟩:=DataW.trod_struct Tryz.underlying34 hf
 have hlen7 : xs.length = 7:=hlen
 match l,hl16,xs,hlen7 with
 | [z0,z1,z2,z3,z4,z5,z6,z7,z8,z9,z10,z11,z12,z13,z14,z15],_,[y0,y1,y2,y3,y4,y5,y6],_ =>
  have r0:=hg 0 _ rfl
  have r1:=hg 1 _ rfl
  have r2:=hg 2 _ rfl
  have r3:=hg 3 _ rfl
  have r4:=hg 4 _ rfl
  have r5:=hg 5 _ rfl
  have r6:=hg 6 _ rfl
  simp [Value.cells,cellsDiskv,cellsBookv,cellsBoolv,cellsStrv,cellsEnvSv,cellsI64v,cellsRekeyv] at r0 r1 r2 r3 r4 r5 r6
  obtain ⟨ds,dt,e0,_,wd,wt⟩:=openDiskv r0
  obtain ⟨c0,c1,c2,c3,a1,n1,a3,a2,n2,a4,ts,is,e1,hb,hbn,hbt,hbi⟩:=openBookv r1
  obtain ⟨op,e2,_⟩:=DataW.trod_bool Tryz.underlying4 r2
  obtain ⟨ma,e3,_,wm⟩:=DataW.trod_string Tryz.underlying9 r3
  obtain ⟨ga,gn,gc,gs,e4,hgr,hgn,hgg⟩:=openEnvSv r4
  obtain ⟨no,e5,_,wn⟩:=DataW.trod_int Tryz.underlying2 r5
  obtain ⟨on,nd,mn,ra,rn,rc,rs,e6,wr,hrr,hrn,hrg⟩:=openRekeyv r6
  simp only [List.cons.injEq,and_true] at e0 e1 e2 e3 e4 e5 e6
  obtain ⟨rfl,rfl⟩:=e0
  obtain ⟨rfl,rfl,rfl,rfl,rfl,rfl⟩:=e1
  obtain ⟨rfl,rfl,rfl,rfl⟩:=e6
  subst e2 e3 e4 e5
  exact ⟨ds,dt,c0,c1,c2,c3,a1,n1,a3,a2,n2,a4,ts,is,op,ma,ga,gn,gc,gs,no,on,nd,mn,ra,rn,rc,rs,rfl,⟨⟨wd,wt⟩,hb,hbn,hbt,hbi,wm,hgr,hgn,hgg,hrr,hrn,hrg⟩,wn,wr⟩
end Go.Proofs.YthkbcjnbmciolaaGreatDoor
namespace Go.Proofs.YthkbcjnbmciolaaGreatDoor
open Go.RowKit Go.PlainAid G MGF IRow
set_option linter.unusedVariables false
theorem BoxC.range {w : World} {h : Nat} {cs : List Value} (b : BoxC w h cs) : w.rangeAt h 0 cs:=fun j v hv => by rw [Nat.zero_add];exact b.cell j v hv
theorem BoxC.there {w : World} {h : Nat} {cs : List Value} (b : BoxC w h cs) : w.there h 0 cs.length:=fun j hj => by
 rw [Nat.zero_add]
 exact ⟨by rw [b.cell j _ (List.getElem?_eq_getElem hj)];rfl,b.free j⟩
def rowIs (P : Program) (ty : TypeId) (n : Nat) : Bool:=(match P.underlying ty with | some d => d.isRow | none => false) && (match P.info? ty with | some i => Nat.beq i.size n | none => false)
theorem rowIs_row {P : Program} {ty : TypeId} {n : Nat} (h : rowIs P ty n = true) : ∃ d,P.underlying ty = some d /\ d.isRow = true:=by
 unfold rowIs at h
 cases hu : P.underlying ty with
 | none => rw [hu] at h;cases h
 | some d => rw [hu] at h;exact ⟨d,rfl,(Bool.and_eq_true_iff.1 h).1⟩
theorem rowIs_size {P : Program} {ty : TypeId} {n : Nat} (h : rowIs P ty n = true) : (P.info? ty).map (·.size) = some n:=by
 unfold rowIs at h
 have h2:=(Bool.and_eq_true_iff.1 h).2
 cases hu : P.info? ty with
 | none => rw [hu] at h2;cases h2
 | some d => rw [hu] at h2;rw [Option.map_some,Nat.eq_of_beq_eq_true h2]
theorem exec_load {P : Program} {o : Oper} {f : Operand -> Value} {w : World} {h : Nat} {cs : List Value} (b : BoxC w h cs) (ty : TypeId) (x : Operand) (n : Nat) (ho : o.op = .load ty x) (hx : f x = .pointer (some ⟨h,0,none⟩)) (hn : cs.length = n) (hr : rowIs P ty n = true) :
 (execOp f o).run P w = .ok (.value (.agg cs.toArray)) w:=by
 obtain ⟨d,hu,hd⟩:=rowIs_row hr
 unfold execOp
 simp only [ho,hx,Instr.loadAt,Instr.sureAddr,Sem.run_bind,Sem.run_pure,Result.andThen_ok,run_loadVar_mid w h 0 ty cs d b.range hu hd (by rw [hn];exact rowIs_size hr)]
theorem exec_store {P : Program} {o : Oper} {f : Operand -> Value} {w : World} {h : Nat} {cs vs : List Value} (b : BoxC w h cs) (ty : TypeId) (x y : Operand) (n : Nat) (ho : o.op = .store ty x y) (hx : f x = .pointer (some ⟨h,0,none⟩)) (hy : f y = .agg vs.toArray) (hn : cs.length = n) (hv : vs.length = n) (h1 : vs.all (·.oneCell') = true) (hr : rowIs P ty n = true) :
 (execOp f o).run P w = .ok .skip (w.setCells h 0 vs):=by
 unfold execOp
 simp only [ho,hx,hy,Instr.storeAt,Instr.sureAddr,Sem.run_bind,Sem.run_pure,Result.andThen_ok,run_storeVar_mid w h 0 ty vs.toArray (by have:=b.there;rw [hn] at this;simpa [hv] using this) (by rw [rowIs_size hr];simp [hv]) (all_oneCell_toArray (List.all_eq_true.1 h1))]
theorem setCells_grown (h : Nat) : ∀ (vs : List Value) (o : Nat) (x : World),x.grownBy (x.setCells h o vs) (some h)
 | [],_,_ => ⟨rfl,rfl,rfl,Nat.le_refl _,fun _ _ _ => rfl⟩
 | v :: r,o,x => by
  rw [World.setCells]
  exact grown_trans (set_grown x h o v) (setCells_grown h r (o + 1) _)
theorem box_setCells {x : World} {h : Nat} {cs : List Value} (b : BoxC x h cs) (vs : List Value) (hv : vs.length = cs.length) : BoxC (x.setCells h 0 vs) h vs :=
 ⟨Nat.lt_of_lt_of_le b.lt (setCells_grown h vs 0 x).size,fun j v hj => by
  have:=World.rangeAt_setCells_same x h 0 vs (by rw [hv];exact b.there) j v hj
  rw [Nat.zero_add] at this
  exact this,fun j => by rw [World.frozen?_setCells];exact b.free j⟩
theorem list_value {P : Program} {ops : Array Oper} {Q : Exit -> Act -> World -> Prop} {rest : List Oper} {o : Oper} {a : Act} {w w' : World} {v : Value} (hg : o.guard = none) (he : (execOp a.eval o).run P w = .ok (.value v) w') (h : wpList P ops Q rest (a.put o.dst v) w') : wpList P ops Q (o :: rest) a w :=
 wpList_plain hg fun K hK => by unfold Oper.wp;rw [he];exact hK _ _ h
theorem list_skip {P : Program} {ops : Array Oper} {Q : Exit -> Act -> World -> Prop} {rest : List Oper} {o : Oper} {a : Act} {w w' : World} (hg : o.guard = none) (he : (execOp a.eval o).run P w = .ok .skip w') (h : wpList P ops Q rest (a.put o.dst undef) w') : wpList P ops Q (o :: rest) a w :=
 wpList_plain hg fun K hK => by unfold Oper.wp;rw [he];exact hK _ _ h
theorem list_load {P : Program} {ops : Array Oper} {Q : Exit -> Act -> World -> Prop} {rest : List Oper} {o : Oper} {a : Act} {w : World} {h : Nat} {cs : List Value} (b : BoxC w h cs) (ty : TypeId) (x : Operand) (n : Nat) (ho : o.op = .load ty x) (hg : o.guard = none) (hx : a.eval x = .pointer (some ⟨h,0,none⟩)) (hn : cs.length = n) (hr : rowIs P ty n = true)
 (k : wpList P ops Q rest (a.put o.dst (.agg cs.toArray)) w) : wpList P ops Q (o :: rest) a w:=list_value hg (exec_load b ty x n ho hx hn hr) k
theorem list_store {P : Program} {ops : Array Oper} {Q : Exit -> Act -> World -> Prop} {rest : List Oper} {o : Oper} {a : Act} {w : World} {h : Nat} {cs vs : List Value} (b : BoxC w h cs) (ty : TypeId) (x y : Operand) (n : Nat) (ho : o.op = .store ty x y) (hg : o.guard = none) (hx : a.eval x = .pointer (some ⟨h,0,none⟩)) (hy : a.eval y = .agg vs.toArray) (hn : cs.length = n) (hv : vs.length = n) (h1 : vs.all (·.oneCell') = true) (hr : rowIs P ty n = true)
 (k : wpList P ops Q rest (a.put o.dst undef) (w.setCells h 0 vs)) : wpList P ops Q (o :: rest) a w:=list_skip hg (exec_store b ty x y n ho hx hy hn hv h1 hr) k
theorem exec_alloc {P : Program} {o : Oper} {f : Operand -> Value} {w W : World} {v : Value} (ty : TypeId) (ho : o.op = .alloc ty) (he : (do pure (.value (<- Instr.alloc ty true (.tuple #[]))) : Sem Next).run P w = .ok (.value v) W) : (execOp f o).run P w = .ok (.value v) W:=by
 unfold execOp
 rw [ho]
 exact he
theorem results_box {P : Program} {fn : Func} {tmps : Array Value} {w : World} {h : Nat} {cs : List Value} {t : Tmp} {ty : TypeId} {n : Nat} (b : BoxC w h cs) (hf : fn.results = #[.cell t ty]) (ht : tmps.getD t undef = .pointer (some ⟨h,0,none⟩)) (hn : cs.length = n) (hr : rowIs P ty n = true) :
 (results fn tmps).run P w = .ok (.agg cs.toArray) w:=by
 obtain ⟨d,hu,hd⟩:=rowIs_row hr
 have h1:=run_loadVar_mid (P:=P) w h 0 ty cs d b.range hu hd (by rw [hn];exact rowIs_size hr)
 have ht' : tmps[t]?.getD undef = .pointer (some ⟨h,0,none⟩):=by simpa using ht
 simp [results,hf,ht',asAddr,h1]
theorem hand_call {P : Program} {ops : Array Oper} {md : Region.Mode} {S : World -> Prop} {Q : Exit -> Act -> World -> Prop} {t : Nat} {o : Oper} {k : Nat} {listed : Array Bool} {a : Act} {w : World} {f : FuncId} {args : Array Value} (hr : Region.ready md ops listed = [t]) (ho : ops[t]? = some o) (hg : o.guard = none) (he : (execOp a.eval o).run P w = .ok (.enter f args) w)
 (h : Calls P f args w fun e w'' => ∃ v,e = .returned v /\ wpAny P md ops Q k (listed.setIfInBounds t true) (a.put o.dst v) w'') : TillZ.wpZ P md ops S t Q (k + 1) listed a w :=
 TillZ.one hr ⟨o,ho,hg,by rw [he];exact Calls.mono h (fun e w'' he => by obtain ⟨v,rfl,h1⟩:=he;exact ⟨fun _ => h1,fun e => absurd rfl e⟩)⟩
structure VP where
 ds : ByteArray
 dt : ByteArray
 c0 : Int
 c1 : Int
 c2 : Int
 c3 : Int
 n1 : Nat
 n2 : Nat
 ts : List Tm
 is : List Im
 op : Bool
 ma : ByteArray
 gn : Nat
 gs : List Ev
 no : Int
 on : Bool
 nd : Int
 mn : Int
 rn : Nat
 rs : List Ev
def VV (p : VP) (v : Value) (u : World) : Prop:=∃ (b1 : Option Addr) (b3 : Nat) (b2 : Option Addr) (b4 : Nat) (g1 : Option Addr) (g2 : Nat) (r1 : Option Addr) (r2 : Nat),v = .agg #[.string p.ds,.string p.dt,.int .i64 p.c0,.int .i64 p.c1,.int .i64 p.c2,.int .i64 p.c3,.slice b1 p.n1 b3,.slice b2 p.n2 b4,.bool p.op,.string p.ma,.slice g1 p.gn g2,.int .i64 p.no,.bool p.on,.int .i64 p.nd,.int .i64 p.mn,.slice r1 p.rn r2] /\ VR u b1 p.n1 b3 b2 p.n2 b4 p.ts p.is g1 p.gn g2 p.gs r1 p.rn r2 p.rs
def VN (p : VP) (v : Value) (base : Nat) (u : World) : Prop:=∃ (b1 : Option Addr) (b3 : Nat) (b2 : Option Addr) (b4 : Nat) (g1 : Option Addr) (g2 : Nat) (r1 : Option Addr) (r2 : Nat),v = .agg #[.string p.ds,.string p.dt,.int .i64 p.c0,.int .i64 p.c1,.int .i64 p.c2,.int .i64 p.c3,.slice b1 p.n1 b3,.slice b2 p.n2 b4,.bool p.op,.string p.ma,.slice g1 p.gn g2,.int .i64 p.no,.bool p.on,.int .i64 p.nd,.int .i64 p.mn,.slice r1 p.rn r2] /\ VO u base b1 p.n1 b3 b2 p.n2 b4 p.ts p.is g1 p.gn g2 p.gs r1 p.rn r2 p.rs
theorem VV.below {p : VP} {v : Value} {u u' : World} (h : VV p v u) (hb : Below u.heap.size u u') : VV p v u':=by
 obtain ⟨b1,b3,b2,b4,g1,g2,r1,r2,hv,hr⟩:=h
 exact ⟨b1,b3,b2,b4,g1,g2,r1,r2,hv,hr.below hb⟩
theorem VN.read {p : VP} {v : Value} {base : Nat} {u : World} (h : VN p v base u) : VV p v u:=by
 obtain ⟨b1,b3,b2,b4,g1,g2,r1,r2,hv,hr⟩:=h
 exact ⟨b1,b3,b2,b4,g1,g2,r1,r2,hv,hr.read⟩
def V16 (v : Value) : Prop:=∃ cs : List Value,cs.length = 16 /\ v = .agg cs.toArray /\ cs.all (·.oneCell') = true
theorem VV.cells {p : VP} {v : Value} {u : World} (h : VV p v u) : V16 v:=by
 obtain ⟨b1,b3,b2,b4,g1,g2,r1,r2,hv,hr⟩:=h
 exact ⟨_,rfl,hv,rfl⟩
def BV (v : Value) (u : World) (h : Nat) : Prop:=∃ cs : List Value,cs.length = 16 /\ v = .agg cs.toArray /\ BoxC u h cs
theorem BV.below {v : Value} {u u' : World} {h : Nat} (b : BV v u h) (hb : Below u.heap.size u u') : BV v u' h:=by
 obtain ⟨cs,h1,h2,h3⟩:=b
 exact ⟨cs,h1,h2,h3.below hb⟩
def cellsV (v : Value) : Array Value:=v.cells
theorem BV.made {v : Value} (w : World) (hv : V16 v) (ty : TypeId) : BV v (w.alloc (.cells (cellsV v) ty)) w.heap.size:=by
 obtain ⟨cs,h1,rfl,h3⟩:=hv
 exact ⟨cs,h1,rfl,BoxC.made w cs.toArray ty⟩
theorem exec_box {P : Program} {o : Oper} {f : Operand -> Value} {w : World} {v : Value} (ty : TypeId) (x : Operand) (ho : o.op = .box ty x) (hx : f x = v) : (execOp f o).run P w = .ok (.value (.pointer (some ⟨w.heap.size,0,none⟩))) (w.alloc (.cells (cellsV v) ty)):=by
 unfold execOp cellsV
 simp [ho,hx,go_sem]
theorem exec_loadV {P : Program} {o : Oper} {f : Operand -> Value} {w : World} {h : Nat} {v : Value} (b : BV v w h) (ty : TypeId) (x : Operand) (ho : o.op = .load ty x) (hx : f x = .pointer (some ⟨h,0,none⟩)) (hr : rowIs P ty 16 = true) : (execOp f o).run P w = .ok (.value v) w:=by
 obtain ⟨cs,h1,rfl,h3⟩:=b
 exact exec_load h3 ty x 16 ho hx h1 hr
theorem list_loadV {P : Program} {ops : Array Oper} {Q : Exit -> Act -> World -> Prop} {rest : List Oper} {o : Oper} {a : Act} {w : World} {h : Nat} {v : Value} (b : BV v w h) (ty : TypeId) (x : Operand) (ho : o.op = .load ty x) (hg : o.guard = none) (hx : a.eval x = .pointer (some ⟨h,0,none⟩)) (hr : rowIs P ty 16 = true)
 (k : wpList P ops Q rest (a.put o.dst v) w) : wpList P ops Q (o :: rest) a w:=list_value hg (exec_loadV b ty x ho hx hr) k
def storeV (w : World) (h : Nat) (v : Value) : World:=w.setCells h 0 v.cells.toList
theorem storeV_grown (w : World) (h : Nat) (v : Value) : w.grownBy (storeV w h v) (some h):=setCells_grown _ _ _ _
theorem storeV_box {w : World} {h : Nat} {v : Value} {zs : List Value} (b : BoxC w h zs) (hz : zs.length = 16) (hv : V16 v) : BV v (storeV w h v) h:=by
 obtain ⟨cs,h1,rfl,h3⟩:=hv
 exact ⟨cs,h1,rfl,box_setCells b cs (by rw [h1,hz])⟩
theorem exec_storeV {P : Program} {o : Oper} {f : Operand -> Value} {w : World} {h : Nat} {v : Value} {zs : List Value} (b : BoxC w h zs) (hz : zs.length = 16) (hv : V16 v) (ty : TypeId) (x y : Operand) (ho : o.op = .store ty x y) (hx : f x = .pointer (some ⟨h,0,none⟩)) (hy : f y = v) (hr : rowIs P ty 16 = true) : (execOp f o).run P w = .ok .skip (storeV w h v):=by
 obtain ⟨cs,h1,rfl,h3⟩:=hv
 exact exec_store b ty x y 16 ho hx hy hz h1 h3 hr
theorem list_storeV {P : Program} {ops : Array Oper} {Q : Exit -> Act -> World -> Prop} {rest : List Oper} {o : Oper} {a : Act} {w : World} {h : Nat} {v : Value} {zs : List Value} (b : BoxC w h zs) (hz : zs.length = 16) (hv : V16 v) (ty : TypeId) (x y : Operand) (ho : o.op = .store ty x y) (hg : o.guard = none) (hx : a.eval x = .pointer (some ⟨h,0,none⟩)) (hy : a.eval y = v) (hr : rowIs P ty 16 = true)
 (k : wpList P ops Q rest (a.put o.dst undef) (storeV w h v)) : wpList P ops Q (o :: rest) a w:=list_skip hg (exec_storeV b hz hv ty x y ho hx hy hr) k
theorem allocV (w : World) : ∃ V,(∀ (f : Operand -> Value) (o : Oper),o.op = .alloc 48 -> (execOp f o).run Tryz.prog w = .ok (.value (.pointer (some ⟨w.heap.size,0,none⟩))) V) /\ (∃ zs : List Value,zs.length = 16 /\ BoxC V w.heap.size zs) /\ Below w.heap.size w V:=by
 refine ⟨w.alloc (.cells #[.string ⟨#[]⟩,.string ⟨#[]⟩,.int .i64 0,.int .i64 0,.int .i64 0,.int .i64 0,.slice none 0 0,.slice none 0 0,.bool false,.string ⟨#[]⟩,.slice none 0 0,.int .i64 0,.bool false,.int .i64 0,.int .i64 0,.slice none 0 0] 48),fun f o ho => exec_alloc 48 ho (by go_simp),⟨_,rfl,BoxC.made _ _ _⟩,(Below.refl _ _).alloc (Nat.le_refl _) _⟩
structure VGd (p : VP) : Prop where
 v : VG p.ds p.dt p.ma p.n1 p.n2 p.gn p.rn p.gs p.rs
structure VIn (p : VP) : Prop where
 d : p.ds.size <= maxLen /\ p.dt.size <= maxLen
 m : p.ma.size <= maxLen
 n : p.n1 <= maxLen /\ p.n2 <= maxLen /\ p.gn <= maxLen /\ p.rn <= maxLen
 bt : ∀ i,i < p.n1 -> TmG (p.ts.getD i tmD)
 bi : ∀ i,i < p.n2 -> ImG (p.is.getD i imD)
 gg : ∀ i,i < p.gn -> EvG (p.gs.getD i evD)
 rg : ∀ i,i < p.rn -> EvG (p.rs.getD i evD)
theorem szVaultV {p : VP} {v : Value} {u : World} (h : VV p v u) (hi : VIn p) :
 Calls Tryz.prog 4 #[v,.int .i64 1048576] u fun e u' => ∃ r : Int,e = .returned (.int .i64 r) /\ (r = -1 ∨ (0 <= r /\ r <= 1048576 /\ VGd p)) /\ Below u.heap.size u u':=by
 obtain ⟨b1,b3,b2,b4,g1,g2,r1,r2,rfl,hr⟩:=h
 refine (szVault_any p.ds p.dt p.c0 p.c1 p.c2 p.c3 p.op p.ma p.no p.on p.nd p.mn b1 p.n1 b3 b2 p.n2 b4 p.ts p.is g1 p.gn g2 p.gs r1 p.rn r2 p.rs u hr hi.d hi.m hi.n hi.bt hi.bi hi.gg hi.rg).mono ?_
 rintro e v1 ⟨r,rfl,hr,hb⟩
 refine ⟨r,rfl,?_,hb⟩
 rcases hr with rfl | ⟨rr0,rr1,⟨hs,hm⟩,hn,hgt,hrt⟩
 · exact .inl rfl
 · exact .inr ⟨rr0,rr1,⟨⟨hs,by unfold maxLen;omega,hn,fun t ht => by have:=hgt t ht;unfold maxLen;omega,fun t ht => by have:=hrt t ht;unfold maxLen;omega⟩⟩⟩
theorem toVaultV {p : VP} {v : Value} {u : World} (h : VV p v u) (hg : VGd p) :
 Calls Tryz.prog 6 #[v] u fun e u' => ∃ v',e = .returned v' /\ VN p v' u.heap.size u' /\ Below u.heap.size u u':=by
 obtain ⟨b1,b3,b2,b4,g1,g2,r1,r2,rfl,hr⟩:=h
 refine (toVault_any p.ds p.dt p.c0 p.c1 p.c2 p.c3 p.op p.ma p.no p.on p.nd p.mn b1 p.n1 b3 b2 p.n2 b4 p.ts p.is g1 p.gn g2 p.gs r1 p.rn r2 p.rs u hr hg.v.n.1 hg.v.n.2.1 hg.v.n.2.2.1 hg.v.n.2.2.2).mono ?_
 rintro e v1 ⟨d1,d3,d2,d4,h1,h2,k1,k2,rfl,ho,hb⟩
 exact ⟨_,rfl,⟨d1,d3,d2,d4,h1,h2,k1,k2,rfl,ho⟩,hb⟩
theorem eqVaultV {p : VP} {v v' : Value} {u : World} (h : VV p v u) (h' : VV p v' u) (hg : VGd p) :
 Calls Tryz.prog 9 #[v,v'] u fun e u' => e = .returned (.bool true) /\ Below u.heap.size u u':=by
 obtain ⟨b1,b3,b2,b4,g1,g2,r1,r2,rfl,hr⟩:=h
 obtain ⟨d1,d3,d2,d4,h1,h2,k1,k2,rfl,hr'⟩:=h'
 exact eqVault_same p.ds p.dt p.c0 p.c1 p.c2 p.c3 p.op p.ma p.no p.on p.nd p.mn b1 p.n1 b3 b2 p.n2 b4 p.ts p.is g1 p.gn g2 p.gs r1 p.rn r2 p.rs d1 d3 d2 d4 h1 h2 k1 k2 u hr hr' hg.v.n.1 hg.v.n.2.1 hg.v.n.2.2.1 hg.v.n.2.2.2
def VP.right (p : VP) : Bool:=vaultB p.ds p.dt p.c0 p.c1 p.c2 p.c3 p.op p.ma p.no p.on p.nd p.mn p.ts p.is p.gs p.rs
theorem specVaultRightV {p : VP} {v : Value} {u : World} (h : VV p v u) (hg : VGd p) :
 Calls Tryz.prog 17 #[v] u fun e u' => e = .returned (.bool p.right) /\ Below u.heap.size u u':=by
 obtain ⟨b1,b3,b2,b4,g1,g2,r1,r2,rfl,hr⟩:=h
 exact specVaultRight_any p.ds p.dt p.c0 p.c1 p.c2 p.c3 p.op p.ma p.no p.on p.nd p.mn b1 p.n1 b3 b2 p.n2 b4 p.ts p.is g1 p.gn g2 p.gs r1 p.rn r2 p.rs u hr hg.v
theorem implVaultRightV {p : VP} {v : Value} {u : World} (h : VV p v u) (hg : VGd p) (he : ET u) :
 Calls Tryz.prog 25 #[v] u fun e u' => e = .returned (.bool p.right) /\ Below u.heap.size u u':=by
 obtain ⟨b1,b3,b2,b4,g1,g2,r1,r2,rfl,hr⟩:=h
 exact implVaultRight_any p.ds p.dt p.c0 p.c1 p.c2 p.c3 p.op p.ma p.no p.on p.nd p.mn b1 p.n1 b3 b2 p.n2 b4 p.ts p.is g1 p.gn g2 p.gs r1 p.rn r2 p.rs u hr hg.v he
theorem vault_named {w : World} {ds dt : ByteArray} {c0 c1 c2 c3 : Int} {a1 : Option Addr} {n1 a3 : Nat} {a2 : Option Addr} {n2 a4 : Nat} {ts : List Tm} {is : List Im} {op : Bool} {ma : ByteArray} {g1 : Option Addr} {gn g2 : Nat} {gs : List Ev} {no : Int} {on : Bool} {nd mn : Int} {r1 : Option Addr} {rn r2 : Nat} {rs : List Ev} (h : VtR w ds dt a1 n1 a3 a2 n2 a4 ts is ma g1 gn g2 gs r1 rn r2 rs) :
 ∃ p : VP,VIn p /\ VV p (.agg #[.string ds,.string dt,.int .i64 c0,.int .i64 c1,.int .i64 c2,.int .i64 c3,.slice a1 n1 a3,.slice a2 n2 a4,.bool op,.string ma,.slice g1 gn g2,.int .i64 no,.bool on,.int .i64 nd,.int .i64 mn,.slice r1 rn r2]) w :=
 ⟨⟨ds,dt,c0,c1,c2,c3,n1,n2,ts,is,op,ma,gn,gs,no,on,nd,mn,rn,rs⟩,⟨h.d,h.m,⟨h.bn.1,h.bn.2,h.gnb,h.rnb⟩,h.bt,h.bi,h.gg,h.rg⟩,⟨a1,a3,a2,a4,g1,g2,r1,r2,rfl,⟨h.b,h.g,h.r⟩⟩⟩
end Go.Proofs.YthkbcjnbmciolaaGreatDoor
