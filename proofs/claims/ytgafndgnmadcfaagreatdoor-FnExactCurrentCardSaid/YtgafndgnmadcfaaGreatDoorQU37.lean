/- Used by the law. -/
import Derived.Deep.MidRow
import Derived.Test.YtgafndgnmadcfaaGreatDoorQU36
set_option maxRecDepth 100000
set_option maxHeartbeats 16000000
namespace Go.Proofs.YtgafndgnmadcfaaGreatDoor
open Go.ChangeShapes Go.WideShapes Go.RowKit G IRow
set_option linter.unusedVariables false
theorem cellsI64v : Tryz.prog.cellsOf 2 = 1:=by kernel_rfl
theorem cellsStrv : Tryz.prog.cellsOf 9 = 1:=by kernel_rfl
theorem cellsDiskv : Tryz.prog.cellsOf 23 = 2:=by kernel_rfl
theorem openDiskv {H : Type} {enc : TypeId × Value -> H} {u : World} {base : Nat} {spare : Nat -> Bool} {held : Bool} {fuel : Nat} {cs : List Value} {x : DataW H × List MemPlace} (h : DataW.trod enc Tryz.prog u base spare held fuel 23 cs = some x) :
 ∃ (q0 : ByteArray) (q1 : ByteArray),cs = [.string q0,.string q1] /\ x = (.agg [.lit (.string q0.data.toList),.lit (.string q1.data.toList)],[]) /\ q0.size <= maxLen /\ q1.size <= maxLen:=by
 obtain ⟨xs,n,_,hx,hl0,hlen,hg⟩:=DataW.trod_struct Tryz.underlying23 h
 have hl : cs.length = 2:=hl0.trans cellsDiskv
 have hlen2 : xs.length = 2:=hlen
 match cs,hl,xs,hlen2 with
 | [a0,a1],_,[y0,y1],_ =>
  have r0:=hg 0 _ rfl
  have r1:=hg 1 _ rfl
  simp [cellsI64v,cellsStrv] at r0 r1
  obtain ⟨q0,e0,z0,w0⟩:=DataW.trod_string Tryz.underlying9 r0
  obtain ⟨q1,e1,z1,w1⟩:=DataW.trod_string Tryz.underlying9 r1
  simp only [List.cons.injEq,and_true] at e0 e1
  subst e0 e1 z0 z1
  exact ⟨q0,q1,rfl,by rw [hx];rfl,w0,w1⟩
theorem cellsEnvv : Tryz.prog.cellsOf 68 = 5:=by kernel_rfl
theorem openEnvv {H : Type} {enc : TypeId × Value -> H} {u : World} {base : Nat} {spare : Nat -> Bool} {held : Bool} {fuel : Nat} {cs : List Value} {x : DataW H × List MemPlace} (h : DataW.trod enc Tryz.prog u base spare held fuel 68 cs = some x) :
 ∃ (q0 : Int) (q1 : Int) (q2 : Int) (q3 : Int) (q4 : ByteArray),cs = [.int .i64 q0,.int .i64 q1,.int .i64 q2,.int .i64 q3,.string q4] /\ x = (.agg [.lit (.int .i64 q0),.lit (.int .i64 q1),.lit (.int .i64 q2),.lit (.int .i64 q3),.lit (.string q4.data.toList)],[]) /\ (Lit.int .i64 q0).wf = true /\ (Lit.int .i64 q1).wf = true /\ (Lit.int .i64 q2).wf = true /\ (Lit.int .i64 q3).wf = true /\ q4.size <= maxLen:=by
 obtain ⟨xs,n,_,hx,hl0,hlen,hg⟩:=DataW.trod_struct Tryz.underlying68 h
 have hl : cs.length = 5:=hl0.trans cellsEnvv
 have hlen2 : xs.length = 5:=hlen
 match cs,hl,xs,hlen2 with
 | [a0,a1,a2,a3,a4],_,[y0,y1,y2,y3,y4],_ =>
  have r0:=hg 0 _ rfl
  have r1:=hg 1 _ rfl
  have r2:=hg 2 _ rfl
  have r3:=hg 3 _ rfl
  have r4:=hg 4 _ rfl
  simp [cellsI64v,cellsStrv] at r0 r1 r2 r3 r4
  obtain ⟨q0,e0,z0,w0⟩:=DataW.trod_int Tryz.underlying2 r0
  obtain ⟨q1,e1,z1,w1⟩:=DataW.trod_int Tryz.underlying2 r1
  obtain ⟨q2,e2,z2,w2⟩:=DataW.trod_int Tryz.underlying2 r2
  obtain ⟨q3,e3,z3,w3⟩:=DataW.trod_int Tryz.underlying2 r3
  obtain ⟨q4,e4,z4,w4⟩:=DataW.trod_string Tryz.underlying9 r4
  simp only [List.cons.injEq,and_true] at e0 e1 e2 e3 e4
  subst e0 e1 e2 e3 e4 z0 z1 z2 z3 z4
  exact ⟨q0,q1,q2,q3,q4,rfl,by rw [hx];rfl,w0,w1,w2,w3,w4⟩
instance : Inhabited Ev:=⟨evD⟩
def EvG (p : Ev) : Prop:=p.t.size <= maxLen
theorem cellsEnvSv : Tryz.prog.cellsOf 30 = 1:=by kernel_rfl
theorem cellsBoolv : Tryz.prog.cellsOf 4 = 1:=by kernel_rfl
theorem cellsRekeyv : Tryz.prog.cellsOf 32 = 4:=by kernel_rfl
theorem cellsVaultv : Tryz.prog.cellsOf 34 = 16:=by kernel_rfl
theorem cellsBookv : Tryz.prog.cellsOf 29 = 6:=by kernel_rfl
theorem cellsTermSv : Tryz.prog.cellsOf 26 = 1:=by kernel_rfl
theorem cellsItemSv : Tryz.prog.cellsOf 27 = 1:=by kernel_rfl
theorem openEnvSv {H : Type} {enc : TypeId × Value -> H} {u : World} {base : Nat} {spare : Nat -> Bool} {held : Bool} {fuel : Nat} {cs : List Value} {x : DataW H × List MemPlace} (h : DataW.trod enc Tryz.prog u base spare held fuel 30 cs = some x) :
 ∃ (a : Option Addr) (len cap : Nat) (ps : List Ev),cs = [.slice a len cap] /\ ER u a len cap ps /\ len <= maxLen /\ ∀ i,i < len -> EvG (ps.getD i evD) :=
 open_rows evE evD EvG Tryz.underlying30 cellsEnvv (by decide) (fun f cs x hx => by
  obtain ⟨q0,q1,q2,q3,q4,rfl,_,w0,w1,w2,w3,w4⟩:=openEnvv hx
  exact ⟨⟨q0,q1,q2,q3,q4⟩,rfl,w4⟩) h
theorem openBookv {H : Type} {enc : TypeId × Value -> H} {u : World} {base : Nat} {spare : Nat -> Bool} {held : Bool} {fuel : Nat} {cs : List Value} {x : DataW H × List MemPlace} (h : DataW.trod enc Tryz.prog u base spare held fuel 29 cs = some x) :
 ∃ (c0 c1 c2 c3 : Int) (a1 : Option Addr) (n1 a3 : Nat) (a2 : Option Addr) (n2 a4 : Nat) (ts : List Tm) (is : List Im),cs = [.int .i64 c0,.int .i64 c1,.int .i64 c2,.int .i64 c3,.slice a1 n1 a3,.slice a2 n2 a4] ∧
  BkR u a1 n1 a3 a2 n2 a4 ts is /\ (n1 <= maxLen /\ n2 <= maxLen) /\ (∀ i,i < n1 -> TmG (ts.getD i tmD)) /\ ∀ i,i < n2 -> ImG (is.getD i imD):=by
 obtain ⟨xs,k,_,hx,hl0,hlen,hg⟩:=DataW.trod_struct Tryz.underlying29 h
 have hl6 : cs.length = 6:=hl0.trans cellsBookv
 have hlen3 : xs.length = 3:=hlen
 match cs,hl6,xs,hlen3 with
 | [z0,z1,z2,z3,z4,z5],_,[y0,y1,y2],_ =>
  have r0:=hg 0 _ rfl
  have r1:=hg 1 _ rfl
  have r2:=hg 2 _ rfl
  simp [cellsConf,cellsTermSv,cellsItemSv] at r0 r1 r2
  obtain ⟨c0,c1,c2,c3,e0,_,_⟩:=openConf r0
  obtain ⟨a1,n1,a3,ts,e1,ht,hn1,hg1⟩:=openTermS r1
  obtain ⟨a2,n2,a4,is,e2,hi,hn2,hg2⟩:=openItemS r2
  simp only [List.cons.injEq,and_true] at e0 e1 e2
  obtain ⟨rfl,rfl,rfl,rfl⟩:=e0
  subst e1 e2
  exact ⟨c0,c1,c2,c3,a1,n1,a3,a2,n2,a4,ts,is,rfl,⟨ht,hi⟩,⟨hn1,hn2⟩,hg1,hg2⟩
theorem openRekeyv {H : Type} {enc : TypeId × Value -> H} {u : World} {base : Nat} {spare : Nat -> Bool} {held : Bool} {fuel : Nat} {cs : List Value} {x : DataW H × List MemPlace} (h : DataW.trod enc Tryz.prog u base spare held fuel 32 cs = some x) :
 ∃ (on : Bool) (nd mn : Int) (a : Option Addr) (n c : Nat) (ps : List Ev),cs = [.bool on,.int .i64 nd,.int .i64 mn,.slice a n c] /\ ((Lit.int .i64 nd).wf = true /\ (Lit.int .i64 mn).wf = true) /\ ER u a n c ps /\ n <= maxLen /\ ∀ i,i < n -> EvG (ps.getD i evD):=by
 obtain ⟨xs,k,_,hx,hl0,hlen,hg⟩:=DataW.trod_struct Tryz.underlying32 h
 have hl4 : cs.length = 4:=hl0.trans cellsRekeyv
 have hlen4 : xs.length = 4:=hlen
 match cs,hl4,xs,hlen4 with
 | [z0,z1,z2,z3],_,[y0,y1,y2,y3],_ =>
  have r0:=hg 0 _ rfl
  have r1:=hg 1 _ rfl
  have r2:=hg 2 _ rfl
  have r3:=hg 3 _ rfl
  simp [cellsBoolv,cellsI64v,cellsEnvSv] at r0 r1 r2 r3
  obtain ⟨on,e0,_⟩:=DataW.trod_bool Tryz.underlying4 r0
  obtain ⟨nd,e1,_,w1⟩:=DataW.trod_int Tryz.underlying2 r1
  obtain ⟨mn,e2,_,w2⟩:=DataW.trod_int Tryz.underlying2 r2
  obtain ⟨a,n,c,ps,e3,hr,hn,hgd⟩:=openEnvSv r3
  simp only [List.cons.injEq,and_true] at e0 e1 e2 e3
  subst e0 e1 e2 e3
  exact ⟨on,nd,mn,a,n,c,ps,rfl,⟨w1,w2⟩,hr,hn,hgd⟩
structure VtR (w : World) (ds dt : ByteArray) (a1 : Option Addr) (n1 a3 : Nat) (a2 : Option Addr) (n2 a4 : Nat) (ts : List Tm) (is : List Im) (ma : ByteArray) (ga : Option Addr) (gn gc : Nat) (gs : List Ev) (ra : Option Addr) (rn rc : Nat) (rs : List Ev) : Prop where
 d : ds.size <= maxLen /\ dt.size <= maxLen
 b : BkR w a1 n1 a3 a2 n2 a4 ts is
 bn : n1 <= maxLen /\ n2 <= maxLen
 bt : ∀ i,i < n1 -> TmG (ts.getD i tmD)
 bi : ∀ i,i < n2 -> ImG (is.getD i imD)
 m : ma.size <= maxLen
 g : ER w ga gn gc gs
 gnb : gn <= maxLen
 gg : ∀ i,i < gn -> EvG (gs.getD i evD)
 r : ER w ra rn rc rs
 rnb : rn <= maxLen
 rg : ∀ i,i < rn -> EvG (rs.getD i evD)
theorem vault_open {H : Type} {enc : TypeId × Value -> H} {w : World} {base b0 : Nat} {spare : Nat -> Bool} {held : Bool} {v : Value} {d : DataW H} {ps : List MemPlace}
 (hv : Value.okWide Tryz.prog w .any b0 34 v) (h : DataW.Trod enc Tryz.prog w base spare held 34 v d ps) :
 ∃ (ds dt : ByteArray) (c0 c1 c2 c3 : Int) (a1 : Option Addr) (n1 a3 : Nat) (a2 : Option Addr) (n2 a4 : Nat) (ts : List Tm) (is : List Im) (op : Bool) (ma : ByteArray) (ga : Option Addr) (gn gc : Nat) (gs : List Ev) (no : Int) (on : Bool) (nd mn : Int) (ra : Option Addr) (rn rc : Nat) (rs : List Ev),
  v = .agg #[.string ds,.string dt,.int .i64 c0,.int .i64 c1,.int .i64 c2,.int .i64 c3,.slice a1 n1 a3,.slice a2 n2 a4,.bool op,.string ma,.slice ga gn gc,.int .i64 no,.bool on,.int .i64 nd,.int .i64 mn,.slice ra rn rc] ∧
  VtR w ds dt a1 n1 a3 a2 n2 a4 ts is ma ga gn gc gs ra rn rc rs /\ ((Lit.int .i64 no).wf = true /\ (Lit.int .i64 nd).wf = true /\ (Lit.int .i64 mn).wf = true):=by
 obtain ⟨⟨l⟩,rfl,hsz⟩:=okWide_struct Tryz.underlying34 hv
 have hl16 : l.length = 16:=hsz.trans cellsVaultv
 obtain ⟨fuel,hf⟩:=h
 obtain ⟨xs,k,_,hx,_,hlen,hg⟩:=DataW.trod_struct Tryz.underlying34 hf
 have hlen7 : xs.length = 7:=hlen
 match l,hl16,xs,hlen7 with
 | [z0,z1,z2,z3,z4,z5,z6,z7,z8,z9,z10,z11,z12,z13,z14,z15],_,[y0,y1,y2,y3,y4,y5,y6],_ =>
  have r0:=hg 0 _ rfl
  have r1:=hg 1 _ rfl
  have r2:=hg 2 _ rfl
  have r3:=hg 3 _ rfl
  have r4:=hg 4 _ rfl
  have r5:=hg 5 _ rfl
  have r6:=hg 6 _ rfl
  simp [Value.cells,cellsDiskv,cellsBookv,cellsBoolv,cellsStrv,cellsEnvSv,cellsI64v,cellsRekeyv] at r0 r1 r2 r3 r4 r5 r6
  obtain ⟨ds,dt,e0,_,wd,wt⟩:=openDiskv r0
  obtain ⟨c0,c1,c2,c3,a1,n1,a3,a2,n2,a4,ts,is,e1,hb,hbn,hbt,hbi⟩:=openBookv r1
  obtain ⟨op,e2,_⟩:=DataW.trod_bool Tryz.underlying4 r2
  obtain ⟨ma,e3,_,wm⟩:=DataW.trod_string Tryz.underlying9 r3
  obtain ⟨ga,gn,gc,gs,e4,hgr,hgn,hgg⟩:=openEnvSv r4
  obtain ⟨no,e5,_,wn⟩:=DataW.trod_int Tryz.underlying2 r5
  obtain ⟨on,nd,mn,ra,rn,rc,rs,e6,wr,hrr,hrn,hrg⟩:=openRekeyv r6
  simp only [List.cons.injEq,and_true] at e0 e1 e2 e3 e4 e5 e6
  obtain ⟨rfl,rfl⟩:=e0
  obtain ⟨rfl,rfl,rfl,rfl,rfl,rfl⟩:=e1
  obtain ⟨rfl,rfl,rfl,rfl⟩:=e6
  subst e2 e3 e4 e5
  exact ⟨ds,dt,c0,c1,c2,c3,a1,n1,a3,a2,n2,a4,ts,is,op,ma,ga,gn,gc,gs,no,on,nd,mn,ra,rn,rc,rs,rfl,⟨⟨wd,wt⟩,hb,hbn,hbt,hbi,wm,hgr,hgn,hgg,hrr,hrn,hrg⟩,wn,wr⟩
end Go.Proofs.YtgafndgnmadcfaaGreatDoor
namespace Go.Proofs.YtgafndgnmadcfaaGreatDoor
open Go.RowKit Go.PlainAid G MGF IRow
set_option linter.unusedVariables false
theorem BoxC.range {w : World} {h : Nat} {cs : List Value} (b : BoxC w h cs) : w.rangeAt h 0 cs:=fun j v hv => by rw [Nat.zero_add];exact b.cell j v hv
theorem BoxC.there {w : World} {h : Nat} {cs : List Value} (b : BoxC w h cs) : w.there h 0 cs.length:=fun j hj => by
 rw [Nat.zero_add]
 exact ⟨by rw [b.cell j _ (List.getElem?_eq_getElem hj)];rfl,b.free j⟩
def rowIs (P : Program) (ty : TypeId) (n : Nat) : Bool:=(match P.underlying ty with | some d => d.isRow | none => false) && (match P.info? ty with | some i => Nat.beq i.size n | none => false)
theorem rowIs_row {P : Program} {ty : TypeId} {n : Nat} (h : rowIs P ty n = true) : ∃ d,P.underlying ty = some d /\ d.isRow = true:=by
 unfold rowIs at h
 cases hu : P.underlying ty with
 | none => rw [hu] at h;cases h
 | some d => rw [hu] at h;exact ⟨d,rfl,(Bool.and_eq_true_iff.1 h).1⟩
theorem rowIs_size {P : Program} {ty : TypeId} {n : Nat} (h : rowIs P ty n = true) : (P.info? ty).map (·.size) = some n:=by
 unfold rowIs at h
 have h2:=(Bool.and_eq_true_iff.1 h).2
 cases hu : P.info? ty with
 | none => rw [hu] at h2;cases h2
 | some d => rw [hu] at h2;rw [Option.map_some,Nat.eq_of_beq_eq_true h2]
theorem exec_load {P : Program} {o : Oper} {f : Operand -> Value} {w : World} {h : Nat} {cs : List Value} (b : BoxC w h cs) (ty : TypeId) (x : Operand) (n : Nat) (ho : o.op = .load ty x) (hx : f x = .pointer (some ⟨h,0,none⟩)) (hn : cs.length = n) (hr : rowIs P ty n = true) :
 (execOp f o).run P w = .ok (.value (.agg cs.toArray)) w:=by
 obtain ⟨d,hu,hd⟩:=rowIs_row hr
 unfold execOp
 simp only [ho,hx,Instr.loadAt,Instr.sureAddr,Sem.run_bind,Sem.run_pure,Result.andThen_ok,run_loadVar_mid w h 0 ty cs d b.range hu hd (by rw [hn];exact rowIs_size hr)]
theorem exec_store {P : Program} {o : Oper} {f : Operand -> Value} {w : World} {h : Nat} {cs vs : List Value} (b : BoxC w h cs) (ty : TypeId) (x y : Operand) (n : Nat) (ho : o.op = .store ty x y) (hx : f x = .pointer (some ⟨h,0,none⟩)) (hy : f y = .agg vs.toArray) (hn : cs.length = n) (hv : vs.length = n) (h1 : vs.all (·.oneCell') = true) (hr : rowIs P ty n = true) :
 (execOp f o).run P w = .ok .skip (w.setCells h 0 vs):=by
 unfold execOp
 simp only [ho,hx,hy,Instr.storeAt,Instr.sureAddr,Sem.run_bind,Sem.run_pure,Result.andThen_ok,run_storeVar_mid w h 0 ty vs.toArray (by have:=b.there;rw [hn] at this;simpa [hv] using this) (by rw [rowIs_size hr];simp [hv]) (all_oneCell_toArray (List.all_eq_true.1 h1))]
theorem setCells_grown (h : Nat) : ∀ (vs : List Value) (o : Nat) (x : World),x.grownBy (x.setCells h o vs) (some h)
 | [],_,_ => ⟨rfl,rfl,rfl,Nat.le_refl _,fun _ _ _ => rfl⟩
 | v :: r,o,x => by
  rw [World.setCells]
  exact grown_trans (set_grown x h o v) (setCells_grown h r (o + 1) _)
theorem box_setCells {x : World} {h : Nat} {cs : List Value} (b : BoxC x h cs) (vs : List Value) (hv : vs.length = cs.length) : BoxC (x.setCells h 0 vs) h vs :=
 ⟨Nat.lt_of_lt_of_le b.lt (setCells_grown h vs 0 x).size,fun j v hj => by
  have:=World.rangeAt_setCells_same x h 0 vs (by rw [hv];exact b.there) j v hj
  rw [Nat.zero_add] at this
  exact this,fun j => by rw [World.frozen?_setCells];exact b.free j⟩
theorem list_value {P : Program} {ops : Array Oper} {Q : Exit -> Act -> World -> Prop} {rest : List Oper} {o : Oper} {a : Act} {w w' : World} {v : Value} (hg : o.guard = none) (he : (execOp a.eval o).run P w = .ok (.value v) w') (h : wpList P ops Q rest (a.put o.dst v) w') : wpList P ops Q (o :: rest) a w :=
 wpList_plain hg fun K hK => by unfold Oper.wp;rw [he];exact hK _ _ h
theorem list_skip {P : Program} {ops : Array Oper} {Q : Exit -> Act -> World -> Prop} {rest : List Oper} {o : Oper} {a : Act} {w w' : World} (hg : o.guard = none) (he : (execOp a.eval o).run P w = .ok .skip w') (h : wpList P ops Q rest (a.put o.dst undef) w') : wpList P ops Q (o :: rest) a w :=
 wpList_plain hg fun K hK => by unfold Oper.wp;rw [he];exact hK _ _ h
theorem list_load {P : Program} {ops : Array Oper} {Q : Exit -> Act -> World -> Prop} {rest : List Oper} {o : Oper} {a : Act} {w : World} {h : Nat} {cs : List Value} (b : BoxC w h cs) (ty : TypeId) (x : Operand) (n : Nat) (ho : o.op = .load ty x) (hg : o.guard = none) (hx : a.eval x = .pointer (some ⟨h,0,none⟩)) (hn : cs.length = n) (hr : rowIs P ty n = true)
 (k : wpList P ops Q rest (a.put o.dst (.agg cs.toArray)) w) : wpList P ops Q (o :: rest) a w:=list_value hg (exec_load b ty x n ho hx hn hr) k
theorem list_store {P : Program} {ops : Array Oper} {Q : Exit -> Act -> World -> Prop} {rest : List Oper} {o : Oper} {a : Act} {w : World} {h : Nat} {cs vs : List Value} (b : BoxC w h cs) (ty : TypeId) (x y : Operand) (n : Nat) (ho : o.op = .store ty x y) (hg : o.guard = none) (hx : a.eval x = .pointer (some ⟨h,0,none⟩)) (hy : a.eval y = .agg vs.toArray) (hn : cs.length = n) (hv : vs.length = n) (h1 : vs.all (·.oneCell') = true) (hr : rowIs P ty n = true)
 (k : wpList P ops Q rest (a.put o.dst undef) (w.setCells h 0 vs)) : wpList P ops Q (o :: rest) a w:=list_skip hg (exec_store b ty x y n ho hx hy hn hv h1 hr) k
theorem exec_alloc {P : Program} {o : Oper} {f : Operand -> Value} {w W : World} {v : Value} (ty : TypeId) (ho : o.op = .alloc ty) (he : (do pure (.value (<- Instr.alloc ty true (.tuple #[]))) : Sem Next).run P w = .ok (.value v) W) : (execOp f o).run P w = .ok (.value v) W:=by
 unfold execOp
 rw [ho]
 exact he
theorem results_box {P : Program} {fn : Func} {tmps : Array Value} {w : World} {h : Nat} {cs : List Value} {t : Tmp} {ty : TypeId} {n : Nat} (b : BoxC w h cs) (hf : fn.results = #[.cell t ty]) (ht : tmps.getD t undef = .pointer (some ⟨h,0,none⟩)) (hn : cs.length = n) (hr : rowIs P ty n = true) :
 (results fn tmps).run P w = .ok (.agg cs.toArray) w:=by
 obtain ⟨d,hu,hd⟩:=rowIs_row hr
 have h1:=run_loadVar_mid (P:=P) w h 0 ty cs d b.range hu hd (by rw [hn];exact rowIs_size hr)
 have ht' : tmps[t]?.getD undef = .pointer (some ⟨h,0,none⟩):=by simpa using ht
 simp [results,hf,ht',asAddr,h1]
theorem hand_call {P : Program} {ops : Array Oper} {md : Region.Mode} {S : World -> Prop} {Q : Exit -> Act -> World -> Prop} {t : Nat} {o : Oper} {k : Nat} {listed : Array Bool} {a : Act} {w : World} {f : FuncId} {args : Array Value} (hr : Region.ready md ops listed = [t]) (ho : ops[t]? = some o) (hg : o.guard = none) (he : (execOp a.eval o).run P w = .ok (.enter f args) w)
 (h : Calls P f args w fun e w'' => ∃ v,e = .returned v /\ wpAny P md ops Q k (listed.setIfInBounds t true) (a.put o.dst v) w'') : TillZ.wpZ P md ops S t Q (k + 1) listed a w :=
 TillZ.one hr ⟨o,ho,hg,by rw [he];exact Calls.mono h (fun e w'' he => by obtain ⟨v,rfl,h1⟩:=he;exact ⟨fun _ => h1,fun e => absurd rfl e⟩)⟩
def curB (z : Bool) (c0 c1 c2 eg en em ex : Int) (et : ByteArray) : Bool:=z && (envB eg en em ex et && (eg == c0 && (en == c1 && em == c2)))
theorem implCurrent_any (ds dt : ByteArray) (c0 c1 c2 c3 : Int) (op : Bool) (ma : ByteArray) (no : Int) (on : Bool) (nd mn : Int) (a1 : Option Addr) (n1 a3 : Nat) (a2 : Option Addr) (n2 a4 : Nat) (ts : List Tm) (is : List Im) (g1 : Option Addr) (gn g2 : Nat) (gs : List Ev) (r1 : Option Addr) (rn r2 : Nat) (rs : List Ev) (eg en em ex : Int) (et : ByteArray) (w : World) (h : VR w a1 n1 a3 a2 n2 a4 ts is g1 gn g2 gs r1 rn r2 rs) (hv : VG ds dt ma n1 n2 gn rn gs rs) (hg : ET w) (ht : et.size <= maxLen) :
 Calls Tryz.prog 30 #[.agg #[.string ds,.string dt,.int .i64 c0,.int .i64 c1,.int .i64 c2,.int .i64 c3,.slice a1 n1 a3,.slice a2 n2 a4,.bool op,.string ma,.slice g1 gn g2,.int .i64 no,.bool on,.int .i64 nd,.int .i64 mn,.slice r1 rn r2],.agg #[.int .i64 eg,.int .i64 en,.int .i64 em,.int .i64 ex,.string et]] w fun e w' => e = .returned (.bool (curB (vaultB ds dt c0 c1 c2 c3 op ma no on nd mn ts is gs rs) c0 c1 c2 eg en em ex et)) /\ Below w.heap.size w w':=by
 have HR:=qH h
 have HV:=qH hv
 clear h hv
 obtain ⟨z,hz⟩ : ∃ z,vaultB ds dt c0 c1 c2 c3 op ma no on nd mn ts is gs rs = z:=⟨_,rfl⟩
 obtain ⟨y,hy⟩ : ∃ y,envB eg en em ex et = y:=⟨_,rfl⟩
 obtain ⟨cv,hcv⟩ : ∃ cv,curB (vaultB ds dt c0 c1 c2 c3 op ma no on nd mn ts is gs rs) c0 c1 c2 eg en em ex et = cv:=⟨_,rfl⟩
 rw [hcv]
 rw [hz] at hcv
 unfold curB at hcv
 rw [hy] at hcv
 have HCV:=qH hcv
 have HZ:=qH hz
 have HY:=qH hy
 clear hcv hz hy
 obtain ⟨W,hW⟩ : ∃ W,W = (w.alloc (.cells #[.string ds,.string dt,.int .i64 c0,.int .i64 c1,.int .i64 c2,.int .i64 c3,.slice a1 n1 a3,.slice a2 n2 a4,.bool op,.string ma,.slice g1 gn g2,.int .i64 no,.bool on,.int .i64 nd,.int .i64 mn,.slice r1 rn r2] 47)).alloc (.cells #[.int .i64 eg,.int .i64 en,.int .i64 em,.int .i64 ex,.string et] 71):=⟨_,rfl⟩
 have HB0:=qH (show Below w.heap.size w W by rw [hW];exact ((Below.refl _ _).alloc (Nat.le_refl _) _).alloc (by simp) _)
 have HX:=qH (show BoxC W w.heap.size [.string ds,.string dt,.int .i64 c0,.int .i64 c1,.int .i64 c2,.int .i64 c3,.slice a1 n1 a3,.slice a2 n2 a4,.bool op,.string ma,.slice g1 gn g2,.int .i64 no,.bool on,.int .i64 nd,.int .i64 mn,.slice r1 rn r2] by rw [hW];exact (BoxC.made _ _ _).alloc _)
 have HE : Hid (BoxC W (w.heap.size + 1) [.int .i64 eg,.int .i64 en,.int .i64 em,.int .i64 ex,.string et]):=qH (by rw [hW];have:=BoxC.made (w.alloc (.cells #[.string ds,.string dt,.int .i64 c0,.int .i64 c1,.int .i64 c2,.int .i64 c3,.slice a1 n1 a3,.slice a2 n2 a4,.bool op,.string ma,.slice g1 gn g2,.int .i64 no,.bool on,.int .i64 nd,.int .i64 mn,.slice r1 rn r2] 47)) #[.int .i64 eg,.int .i64 en,.int .i64 em,.int .i64 ex,.string et] 71;rw [World.size_alloc] at this;exact this)
 go_enter Tryz.func30,Tryz.ntmps30
 go_upto_region 1 with fail
 rw [<- hW]
 clear hW
 obtain ⟨V,hV⟩ : ∃ V,V = ((((W.alloc (.cells #[.int .i64 0,.int .i64 0,.int .i64 0,.int .i64 0] 38)).setCell ⟨W.heap.size,0,none⟩ (.int .i64 c0)).setCell ⟨W.heap.size,1,none⟩ (.int .i64 c1)).setCell ⟨W.heap.size,2,none⟩ (.int .i64 c2)).setCell ⟨W.heap.size,3,none⟩ (.int .i64 c3):=⟨_,rfl⟩
 obtain ⟨U,hU⟩ : ∃ U,U = W.alloc (.cells #[.int .i64 c0,.int .i64 c1,.int .i64 c2,.int .i64 c3] 38):=⟨_,rfl⟩
 have HC:=qH (show BoxC U W.heap.size [.int .i64 c0,.int .i64 c1,.int .i64 c2,.int .i64 c3] by rw [hU];exact BoxC.made _ _ _)
 have hVB : Below W.heap.size W U:=by rw [hU];exact (Below.refl _ _).alloc (Nat.le_refl _) _
 have HX1:=qH (HX.out.below hVB)
 have HE1:=qH (HE.out.below hVB)
 have HB1:=qH (HB0.out.trans (hVB.mono HB0.out.size))
 clear hVB hV
 have x2:=HX.out.cell 2 _ rfl
 have x3:=HX.out.cell 3 _ rfl
 have x4:=HX.out.cell 4 _ rfl
 have x5:=HX.out.cell 5 _ rfl
 go_upto_region 2 with fail
 rw [<- hU]
 clear hU x2 x3 x4 x5 HX HE HB0
 go_wp2_with (refine list_load HX1.out 47 _ 16 rfl rfl rfl rfl (by kernel_rfl) ?_;simp only [pS,pN,List.set,zT,zZ,zU])
 refine (implVaultRight_any ds dt c0 c1 c2 c3 op ma no on nd mn a1 n1 a3 a2 n2 a4 ts is g1 gn g2 gs r1 rn r2 rs U (HR.out.below HB1.out) HV.out (hg.below HB1.out)).mono ?_
 rintro e v3 ⟨he,hb⟩
 rw [HZ.out] at he
 subst he
 have HE3:=qH (HE1.out.below hb)
 have HC3:=qH (HC.out.below hb)
 have HB3:=qH (HB1.out.trans (hb.mono HB1.out.size))
 clear hb HE1 HC HB1 HX1
 cases z with
 | false =>
  obtain rfl : cv = false:=by rw [<- HCV.out];rfl
  go_wp2_with fail
  go_ret
  exact ⟨rfl,HB3.out⟩
 | true =>
  have y0:=HE3.out.cell 0 _ rfl
  have y1:=HE3.out.cell 1 _ rfl
  have y2:=HE3.out.cell 2 _ rfl
  have y3:=HE3.out.cell 3 _ rfl
  have y4:=HE3.out.cell 4 _ rfl
  go_wp2_with fail
  refine (implEnvRight_any eg en em ex et v3 ht).mono ?_
  rintro e v4 ⟨he,hb⟩
  rw [HY.out] at he
  subst he
  have HE4:=qH (HE3.out.below hb)
  have HC4:=qH (HC3.out.below hb)
  have HB4:=qH (HB3.out.trans (hb.mono HB3.out.size))
  clear hb HE3 HC3 HB3 y0 y1 y2 y3 y4
  cases y with
  | false =>
   obtain rfl : cv = false:=by rw [<- HCV.out];rfl
   go_wp2_with fail
   go_ret
   exact ⟨rfl,HB4.out⟩
  | true =>
   have u0:=HE4.out.cell 0 _ rfl
   have u1:=HE4.out.cell 1 _ rfl
   have u2:=HE4.out.cell 2 _ rfl
   have t0:=HC4.out.cell 0 _ rfl
   have t1:=HC4.out.cell 1 _ rfl
   have t2:=HC4.out.cell 2 _ rfl
   by_cases q0 : eg = c0
   · by_cases q1 : en = c1
     · obtain rfl : cv = (em == c2):=by rw [<- HCV.out];simp [q0,q1]
       go_wp2_with fail
       go_ret
       exact ⟨rfl,HB4.out⟩
     · obtain rfl : cv = false:=by rw [<- HCV.out];simp [q0,q1]
       go_wp2_with fail
       go_ret
       exact ⟨rfl,HB4.out⟩
   · obtain rfl : cv = false:=by rw [<- HCV.out];simp [q0]
     go_wp2_with fail
     go_ret
     exact ⟨rfl,HB4.out⟩
theorem specCurrent_any (ds dt : ByteArray) (c0 c1 c2 c3 : Int) (op : Bool) (ma : ByteArray) (no : Int) (on : Bool) (nd mn : Int) (a1 : Option Addr) (n1 a3 : Nat) (a2 : Option Addr) (n2 a4 : Nat) (ts : List Tm) (is : List Im) (g1 : Option Addr) (gn g2 : Nat) (gs : List Ev) (r1 : Option Addr) (rn r2 : Nat) (rs : List Ev) (eg en em ex : Int) (et : ByteArray) (w : World) (h : VR w a1 n1 a3 a2 n2 a4 ts is g1 gn g2 gs r1 rn r2 rs) (hv : VG ds dt ma n1 n2 gn rn gs rs) (ht : et.size <= maxLen) :
 Calls Tryz.prog 28 #[.agg #[.string ds,.string dt,.int .i64 c0,.int .i64 c1,.int .i64 c2,.int .i64 c3,.slice a1 n1 a3,.slice a2 n2 a4,.bool op,.string ma,.slice g1 gn g2,.int .i64 no,.bool on,.int .i64 nd,.int .i64 mn,.slice r1 rn r2],.agg #[.int .i64 eg,.int .i64 en,.int .i64 em,.int .i64 ex,.string et]] w fun e w' => e = .returned (.bool (curB (vaultB ds dt c0 c1 c2 c3 op ma no on nd mn ts is gs rs) c0 c1 c2 eg en em ex et)) /\ Below w.heap.size w w':=by
 have HR:=qH h
 have HV:=qH hv
 clear h hv
 obtain ⟨z,hz⟩ : ∃ z,vaultB ds dt c0 c1 c2 c3 op ma no on nd mn ts is gs rs = z:=⟨_,rfl⟩
 obtain ⟨y,hy⟩ : ∃ y,envB eg en em ex et = y:=⟨_,rfl⟩
 obtain ⟨cv,hcv⟩ : ∃ cv,curB (vaultB ds dt c0 c1 c2 c3 op ma no on nd mn ts is gs rs) c0 c1 c2 eg en em ex et = cv:=⟨_,rfl⟩
 rw [hcv]
 rw [hz] at hcv
 unfold curB at hcv
 rw [hy] at hcv
 have HCV:=qH hcv
 have HZ:=qH hz
 have HY:=qH hy
 clear hcv hz hy
 obtain ⟨W,hW⟩ : ∃ W,W = (w.alloc (.cells #[.string ds,.string dt,.int .i64 c0,.int .i64 c1,.int .i64 c2,.int .i64 c3,.slice a1 n1 a3,.slice a2 n2 a4,.bool op,.string ma,.slice g1 gn g2,.int .i64 no,.bool on,.int .i64 nd,.int .i64 mn,.slice r1 rn r2] 47)).alloc (.cells #[.int .i64 eg,.int .i64 en,.int .i64 em,.int .i64 ex,.string et] 71):=⟨_,rfl⟩
 have HB0:=qH (show Below w.heap.size w W by rw [hW];exact ((Below.refl _ _).alloc (Nat.le_refl _) _).alloc (by simp) _)
 have HX:=qH (show BoxC W w.heap.size [.string ds,.string dt,.int .i64 c0,.int .i64 c1,.int .i64 c2,.int .i64 c3,.slice a1 n1 a3,.slice a2 n2 a4,.bool op,.string ma,.slice g1 gn g2,.int .i64 no,.bool on,.int .i64 nd,.int .i64 mn,.slice r1 rn r2] by rw [hW];exact (BoxC.made _ _ _).alloc _)
 have HE : Hid (BoxC W (w.heap.size + 1) [.int .i64 eg,.int .i64 en,.int .i64 em,.int .i64 ex,.string et]):=qH (by rw [hW];have:=BoxC.made (w.alloc (.cells #[.string ds,.string dt,.int .i64 c0,.int .i64 c1,.int .i64 c2,.int .i64 c3,.slice a1 n1 a3,.slice a2 n2 a4,.bool op,.string ma,.slice g1 gn g2,.int .i64 no,.bool on,.int .i64 nd,.int .i64 mn,.slice r1 rn r2] 47)) #[.int .i64 eg,.int .i64 en,.int .i64 em,.int .i64 ex,.string et] 71;rw [World.size_alloc] at this;exact this)
 go_enter Tryz.func28,Tryz.ntmps28
 go_upto_region 1 with fail
 rw [<- hW]
 clear hW
 obtain ⟨V,hV⟩ : ∃ V,V = ((((W.alloc (.cells #[.int .i64 0,.int .i64 0,.int .i64 0,.int .i64 0] 38)).setCell ⟨W.heap.size,0,none⟩ (.int .i64 c0)).setCell ⟨W.heap.size,1,none⟩ (.int .i64 c1)).setCell ⟨W.heap.size,2,none⟩ (.int .i64 c2)).setCell ⟨W.heap.size,3,none⟩ (.int .i64 c3):=⟨_,rfl⟩
 obtain ⟨U,hU⟩ : ∃ U,U = W.alloc (.cells #[.int .i64 c0,.int .i64 c1,.int .i64 c2,.int .i64 c3] 38):=⟨_,rfl⟩
 have HC:=qH (show BoxC U W.heap.size [.int .i64 c0,.int .i64 c1,.int .i64 c2,.int .i64 c3] by rw [hU];exact BoxC.made _ _ _)
 have hVB : Below W.heap.size W U:=by rw [hU];exact (Below.refl _ _).alloc (Nat.le_refl _) _
 have HX1:=qH (HX.out.below hVB)
 have HE1:=qH (HE.out.below hVB)
 have HB1:=qH (HB0.out.trans (hVB.mono HB0.out.size))
 clear hVB hV
 have x2:=HX.out.cell 2 _ rfl
 have x3:=HX.out.cell 3 _ rfl
 have x4:=HX.out.cell 4 _ rfl
 have x5:=HX.out.cell 5 _ rfl
 go_upto_region 2 with fail
 rw [<- hU]
 clear hU x2 x3 x4 x5 HX HE HB0
 go_wp2_with (refine list_load HX1.out 47 _ 16 rfl rfl rfl rfl (by kernel_rfl) ?_;simp only [pS,pN,List.set,zT,zZ,zU])
 refine (specVaultRight_any ds dt c0 c1 c2 c3 op ma no on nd mn a1 n1 a3 a2 n2 a4 ts is g1 gn g2 gs r1 rn r2 rs U (HR.out.below HB1.out) HV.out).mono ?_
 rintro e v3 ⟨he,hb⟩
 rw [HZ.out] at he
 subst he
 have HE3:=qH (HE1.out.below hb)
 have HC3:=qH (HC.out.below hb)
 have HB3:=qH (HB1.out.trans (hb.mono HB1.out.size))
 clear hb HE1 HC HB1 HX1
 cases z with
 | false =>
  obtain rfl : cv = false:=by rw [<- HCV.out];rfl
  go_wp2_with fail
  go_ret
  exact ⟨rfl,HB3.out⟩
 | true =>
  have y0:=HE3.out.cell 0 _ rfl
  have y1:=HE3.out.cell 1 _ rfl
  have y2:=HE3.out.cell 2 _ rfl
  have y3:=HE3.out.cell 3 _ rfl
  have y4:=HE3.out.cell 4 _ rfl
  go_wp2_with fail
  refine (specEnvRight_any eg en em ex et v3 ht).mono ?_
  rintro e v4 ⟨he,hb⟩
  rw [HY.out] at he
  subst he
  have HE4:=qH (HE3.out.below hb)
  have HC4:=qH (HC3.out.below hb)
  have HB4:=qH (HB3.out.trans (hb.mono HB3.out.size))
  clear hb HE3 HC3 HB3 y0 y1 y2 y3 y4
  cases y with
  | false =>
   obtain rfl : cv = false:=by rw [<- HCV.out];rfl
   go_wp2_with fail
   go_ret
   exact ⟨rfl,HB4.out⟩
  | true =>
   have u0:=HE4.out.cell 0 _ rfl
   have u1:=HE4.out.cell 1 _ rfl
   have u2:=HE4.out.cell 2 _ rfl
   have t0:=HC4.out.cell 0 _ rfl
   have t1:=HC4.out.cell 1 _ rfl
   have t2:=HC4.out.cell 2 _ rfl
   by_cases q0 : eg = c0
   · by_cases q1 : en = c1
     · obtain rfl : cv = (em == c2):=by rw [<- HCV.out];simp [q0,q1]
       go_wp2_with fail
       go_ret
       exact ⟨rfl,HB4.out⟩
     · obtain rfl : cv = false:=by rw [<- HCV.out];simp [q0,q1]
       go_wp2_with fail
       go_ret
       exact ⟨rfl,HB4.out⟩
   · obtain rfl : cv = false:=by rw [<- HCV.out];simp [q0]
     go_wp2_with fail
     go_ret
     exact ⟨rfl,HB4.out⟩
end Go.Proofs.YtgafndgnmadcfaaGreatDoor
