/- Used by the law. -/
import Derived.Test.YthkbcjnbmciolaaGreatDoorQV18
set_option maxRecDepth 100000
set_option maxHeartbeats 16000000
namespace Go.Proofs.YthkbcjnbmciolaaGreatDoor
open Go.RowKit Go.PlainAid G IRow
set_option linter.unusedVariables false
def stE : Enc ByteArray:=⟨1,fun t => [.string t],fun _ => rfl,by intro x v hv;simp at hv;subst hv;rfl⟩
theorem infoStr : (Tryz.prog.info? 9).map (fun i => (i.zero,i.size,i.bytes)) = some (some (.string ByteArray.empty),1,16):=by kernel_rfl
theorem append_opz {α : Type} (E : Enc α) (d : α) {P : Program} {ops : Array Oper} {md : Region.Mode} {S : World -> Prop} {Q : Exit -> Act -> World -> Prop} {i t k : Nat} {listed : Array Bool} {o : Oper} {a : Act} {w : World} (s x : Operand) (T : TypeId)
 (ho : ops[i]? = some o) (hg : o.guard = none) (hne : Nat.beq i t = false) (hop : o.op = .call { callee:=.builtin .append,args:=#[s,x],argTypes:=#[T,T] })
 (e : TypeId) (ti : TypeInfo) (z : Value) (bytes : Nat) (ht : P.underlying T = some (.slice e)) (hi : P.info? e = some ti) (hz : ti.zero = some z) (hsize : ti.size = E.k) (hby : ti.bytes = bytes) (hzs : z.cells.size = E.k) (hk : 0 < E.k) (hbb : bytes <= 1024)
 (B : Nat) (v : Value) (n : Nat) (ps : List α) (hs : a.eval s = v) (hown : w.ownsRow B e E.k v n (E.flat ps)) (ao : Option Addr) (m c : Nat) (qs : List α) (hx : a.eval x = .slice ao m c) (hr : SR E d w ao m c qs) (hB : B <= w.heap.size) (hn : n <= 1048576) (hm : m <= 1048576)
 (h : ∀ v' w',w'.ownsRow B e E.k v' (n + m) (E.flat (ps ++ qs)) -> w.grownBy w' v.ownBlock -> S w' /\ TillZ.wpZ P md ops S t Q k (listed.setIfInBounds i true) (a.put o.dst v') w') :
 TillZ.opZ P ops i (fun a' w' => (i = t -> wpAny P md ops Q k (listed.setIfInBounds i true) a' w') /\ (i ≠ t -> S w' /\ TillZ.wpZ P md ops S t Q k (listed.setIfInBounds i true) a' w')) a w:=by
 obtain ⟨v',w',h1,h2,h3⟩:=run_append_rows E d (P:=P) (w:=w) (o:=o) (a:=a) s x T hop e ti z bytes ht hi hz hsize hby hzs hk hbb B v n ps hs hown ao m c qs hx hr hB hn hm
 obtain ⟨h4,h5⟩:=h v' w' h2 h3
 exact TillZ.opz ho hg hne h1 h4 h5
theorem append_wl {α : Type} (E : Enc α) (d : α) {P : Program} {w : World} {ops : Array Oper} {rest : List Oper} {o : Oper} {a : Act} {Q : Exit -> Act -> World -> Prop} (hgd : o.guard = none) (s x : Operand) (T : TypeId)
 (hop : o.op = .call { callee:=.builtin .append,args:=#[s,x],argTypes:=#[T,T] })
 (e : TypeId) (ti : TypeInfo) (z : Value) (bytes : Nat) (ht : P.underlying T = some (.slice e)) (hi : P.info? e = some ti) (hz : ti.zero = some z) (hsize : ti.size = E.k) (hby : ti.bytes = bytes) (hzs : z.cells.size = E.k) (hk : 0 < E.k) (hbb : bytes <= 1024)
 (B : Nat) (v : Value) (n : Nat) (ps : List α) (hs : a.eval s = v) (hown : w.ownsRow B e E.k v n (E.flat ps)) (ao : Option Addr) (m c : Nat) (qs : List α) (hx : a.eval x = .slice ao m c) (hr : SR E d w ao m c qs) (hB : B <= w.heap.size) (hn : n <= 1048576) (hm : m <= 1048576)
 (h : ∀ v' w',w'.ownsRow B e E.k v' (n + m) (E.flat (ps ++ qs)) -> w.grownBy w' v.ownBlock -> wpList P ops Q rest (a.put o.dst v') w') : wpList P ops Q (o :: rest) a w:=by
 refine wpList_plain hgd fun K' hK' => ?_
 obtain ⟨v',w',h1,h2,h3⟩:=run_append_rows E d (P:=P) (w:=w) (o:=o) (a:=a) s x T hop e ti z bytes ht hi hz hsize hby hzs hk hbb B v n ps hs hown ao m c qs hx hr hB hn hm
 unfold Oper.wp
 rw [h1]
 exact hK' _ _ (h v' w' h2 h3)
theorem own_made0 {α : Type} (E : Enc α) (u : World) (e : TypeId) {base : Nat} (hb : base <= u.heap.size) : (u.alloc (.cells #[] e)).ownsRow base e E.k (.slice (some ⟨u.heap.size,0,none⟩) 0 0) 0 (E.flat []) :=
 World.ownsRow_made u #[] 0 hb (by decide) (by simp)
end Go.Proofs.YthkbcjnbmciolaaGreatDoor
namespace Go.Proofs.YthkbcjnbmciolaaGreatDoor
open Go.RowKit Go.PlainAid G MGet MGF IRow MNum MJoin
set_option linter.unusedVariables false
theorem catchQ_panicking (h : Nat) (c : Int) (v0 : Value) (w : World) (h0 : w.cell? ⟨h,0,none⟩ = some v0) (hf : w.frozen? ⟨h,0,none⟩ = false) :
 CallsD Tryz.prog 126 #[.pointer (some ⟨h,0,none⟩)] (.panicking [{ v:=errV c,recovered:=false }]) w fun e u' w' => e = .returned (.tuple #[]) /\ u' = .panicking [{ v:=errV c,recovered:=true }] /\ w'.cell? ⟨h,0,none⟩ = some (.slice none 0 0) /\ Below h w w':=by
 have hg : ∀ u : World,(eqGuard BinOp.neq 20 (.tmp 1) (.const .nilIface) (errV c) .nilIface).run Tryz.prog u = .ok () u:=fun u => by kernel_rfl
 have hb : ∀ u : World,(binOp BinOp.neq 20 (errV c) .nilIface).run Tryz.prog u = .ok (.bool true) u:=fun u => by kernel_rfl
 have hlt : h < w.heap.size:=by
  rcases Nat.lt_or_ge h w.heap.size with h2 | h2
  · exact h2
  · simp [World.cell?,Array.getElem?_eq_none h2] at h0
 refine callsD_of_wpS Tryz.func126 rfl fun c₀ cs hu => ?_
 apply wpS_seq
 apply wpS_region
 simp [wpOpsS,go_sem,recoverD,hu,Tryz.ntmps126,Exit.thenS,hg,hb]
 change Code.wpS _ _ _ { tmps:=#[.pointer (some ⟨h,0,none⟩),errV c,.bool true],defers:=[] } _ _
 refine wpS_of_wp ?_
 go_wp2_with fail
 exact ⟨rfl,_,rfl,.tuple #[],by simp [results,Tryz.results126,go_sem],rfl,rfl,World.cell?_setCell_same _ _ _ h0,(Below.refl _ _).setCell (p:=⟨h,0,none⟩) (Nat.le_refl _) _⟩
theorem catchQ_idle (h : Nat) (w : World) :
 CallsD Tryz.prog 126 #[.pointer (some ⟨h,0,none⟩)] .returning w fun e u' w' => e = .returned (.tuple #[]) /\ u' = .returning /\ w' = w:=by
 refine callsD_of_wpS Tryz.func126 rfl fun c₀ cs hu => ?_
 apply wpS_seq
 apply wpS_region
 simp [wpOpsS,go_sem,recoverD,hu,Tryz.ntmps126,Exit.thenS]
 change Code.wpS _ _ _ { tmps:=#[.pointer (some ⟨h,0,none⟩),.nilIface,.bool false],defers:=[] } _ _
 refine wpS_of_wp ?_
 go_wp2_with fail
 refine ⟨rfl,.returning,?_,.tuple #[],by simp [results,Tryz.results126,go_sem],rfl,rfl,rfl⟩
 cases c₀
 simp_all
theorem sN_le {u : ByteArray} {q : Plc} (h : q.1 <= u.size) : (sN u q).2.1 <= u.size:=by
 by_cases hc : (rdS u q.1 10 0 0).2.2 = 0
 · exact (sN_yes hc).2.2
 · rw [sN_no hc];exact h
theorem sT_le {u : ByteArray} {q : Plc} (h : q.1 <= u.size) : (sT u q).2.1 <= u.size:=by
 by_cases hc : (txtS u q.1).2.2 = 0
 · exact (sT_yes hc).2.2
 · rw [sT_no hc];exact h
theorem rdDeed_le {u : ByteArray} {q : Plc} (h : q.1 <= u.size) : (rdDeed u q).2.1 <= u.size:=by
 unfold rdDeed rcRest
 have h1:=sN_le h
 split
 · exact sN_le (sN_le (sN_le (sN_le h1)))
 · split
   · exact sT_le (sN_le h1)
   · split
     · exact sT_le (sN_le (sT_le h1))
     · split
       · exact sT_le h1
       · exact h1
theorem RB.drew {w : World} {b : Nat} {u : ByteArray} {p : Int} (k : RB w b u p) : RB w.drew b u p:=⟨k.lt,k.c0,k.c1,k.free⟩
section
variable {P : Program} {ops : Array Oper} {md : Region.Mode} {Q : Exit -> Act -> World -> Prop}
theorem any_two {i j k : Nat} {listed : Array Bool} {a : Act} {w : World} (hr : Region.ready md ops listed = [i,j]) (h1 : wpOp P ops Q i (fun a' w' => wpAny P md ops Q k (listed.setIfInBounds i true) a' w') a w) (h2 : wpOp P ops Q j (fun a' w' => wpAny P md ops Q k (listed.setIfInBounds j true) a' w') a w) : wpAny P md ops Q (k + 1) listed a w:=by
 refine ⟨fun h0 => (by rw [hr] at h0;cases h0),fun m hm => ?_⟩
 rw [hr] at hm
 rcases List.mem_cons.1 hm with rfl | hm
 · exact h1
 · obtain rfl : m = j:=by simpa using hm
   exact h2
theorem any_one {i k : Nat} {listed : Array Bool} {a : Act} {w : World} (hr : Region.ready md ops listed = [i]) (h1 : wpOp P ops Q i (fun a' w' => wpAny P md ops Q k (listed.setIfInBounds i true) a' w') a w) : wpAny P md ops Q (k + 1) listed a w:=by
 refine ⟨fun h0 => (by rw [hr] at h0;cases h0),fun m hm => ?_⟩
 rw [hr] at hm
 obtain rfl : m = i:=by simpa using hm
 exact h1
theorem op_value {i : Nat} {o : Oper} {K : Act -> World -> Prop} {a : Act} {w : World} {v : Value} (ho : ops[i]? = some o) (hg : o.guard = none) (he : (execOp a.eval o).run P w = .ok (.value v) w) (h : K (a.put o.dst v) w) : wpOp P ops Q i K a w :=
 TillZ.opZ_wp ⟨o,ho,hg,by rw [he];exact h⟩
theorem region_any {id : Nat} {a : Act} {w : World} (hm : P.follows .mixedOrders = true) (h : wpAny P .any ops Q ops.size (Array.replicate ops.size false) a w.drew) : (Code.region id ops true).wp P Q a w:=wp_region_any hm h
theorem op_panic {i : Nat} {o : Oper} {K : Act -> World -> Prop} {a : Act} {w : World} {f : FuncId} {args : Array Value} (ho : ops[i]? = some o) (hg : o.guard = none) (he : (execOp a.eval o).run P w = .ok (.enter f args) w)
 (h : Calls P f args w fun e w'' => ∃ ch,e = .panicked ch /\ Q (.panic ch) a w'') : wpOp P ops Q i K a w:=by
 unfold wpOp
 rw [ho]
 dsimp only
 rw [if_pos (by simp [Region.wanted,hg])]
 refine .inl ?_
 unfold Oper.wp
 rw [he]
 exact Calls.mono h (fun e w'' he => by obtain ⟨ch,rfl,hq⟩:=he;exact hq)
end
def NewDds (l : List Dd) (w : World) (e : Ending) (w' : World) : Prop :=
 ∃ a n c,e = .returned (.slice a n c) /\ w'.ownsRow w.heap.size 145 ddE.k (.slice a n c) n (ddE.flat l) /\ Below w.heap.size w w'
theorem deedsIn_any (s : ByteArray) (w : World) (hs : s.size <= maxLen) (hg : ET w) :
 Calls Tryz.prog 99 #[.string s] w (NewDds (rdPart s) w):=by
 have hmf : ∀ (fn : Fn) (first cap : Array Value) (u : World),(Instr.makeFunc fn first cap).run Tryz.prog u = .ok (.func fn first cap) u:=fun _ _ _ _ => rfl
 obtain ⟨W,hW⟩ : ∃ W,W = w.alloc (.cells #[.slice none 0 0] 123):=⟨_,rfl⟩
 obtain ⟨h,hh⟩ : ∃ h,h = w.heap.size:=⟨_,rfl⟩
 have HL0:=qH (show BoxC W h [.slice none 0 0] by rw [hW,hh];exact BoxC.made _ _ _)
 have HB0 : Hid (Below h w W):=qH (by rw [hW,hh];exact (Below.refl _ _).alloc (Nat.le_refl _) _)
 have HG0 : Hid (ET W):=qH (by rw [hW];exact hg.alloc _)
 have HHE:=qH hh
 clear hg
 by_cases hc : (openS s).2.2 = 0
 · have HI:=qH (openS_is hc)
   have hf8:=openS_fits hc
   have HRP : Hid (rdPart s = rdTx (openS s).1):=qH (by unfold rdPart;rw [if_pos hc])
   generalize (openS s).1 = t at *
   clear hc
   go_enter_defers Tryz.func99,Tryz.ntmps99
   go_wp2_with fail
   rw [<- hW,<- hh]
   clear hW hh
   refine (unsealed_ok s t _ hs HG0.out HI.out).mono ?_
   rintro e w1 ⟨rfl,hb⟩
   have HL1:=qH (HL0.out.below hb)
   have HB1:=qH (HB0.out.trans (hb.mono (Nat.le_of_lt HL0.out.lt)))
   obtain ⟨V,hV⟩ : ∃ V,V = w1.alloc (.cells #[.string t,.int .i64 0] 181):=⟨_,rfl⟩
   obtain ⟨b,hb2⟩ : ∃ b,b = w1.heap.size:=⟨_,rfl⟩
   have hb1 : Below w1.heap.size w1 V:=by rw [hV];exact (Below.refl _ _).alloc (Nat.le_refl _) _
   have hhw : h < w1.heap.size:=HL1.out.lt
   have HBV:=qH (HB1.out.trans (hb1.mono (Nat.le_of_lt hhw)))
   have HLV:=qH (HL1.out.below hb1)
   have HRV:=qH (show RB V b t ((0 : Nat) : Int) by rw [hV,hb2];exact ⟨by simp,by simp,by simp,by simp⟩)
   have hhb : h < b:=by omega
   have hne : h ≠ b:=by omega
   clear hb hb1 HL1 HB1 hhw
   go_wp2_with fail
   rw [<- hV,<- hb2]
   clear hV hb2
   by_cases hc : (rdS t 0 10 0 0).2.2 = 0
   · obtain ⟨n,p1,he,hy,hp1⟩:=sN_step hc
     have HE:=qH he
     have HY:=qH hy
     clear hc hy he
     refine (num_ok b t 0 p1 n _ HRV.out hf8 (Nat.zero_le _) HY.out).mono ?_
     rintro e w2 ⟨rfl,hr,hg⟩
     have HR2:=qH hr
     have HL2:=qH (HLV.out.kept hg hne)
     have HB2:=qH (below_kept HBV.out hg (Nat.le_of_lt HLV.out.lt) (Nat.le_of_lt hhb))
     clear hr hg HY HLV HBV HRV
     by_cases hn : 1 <= n /\ n <= 10
     · obtain ⟨hn1,hn2⟩:=hn
       go_wp2_with fail
       refine (must_yes _).mono ?_
       rintro e w3 ⟨rfl,rfl⟩
       go_wp2_with fail
       have hh2 : h < w2.heap.size:=HL2.out.lt
       have hb2 : b < w2.heap.size:=HR2.out.lt
       obtain ⟨q0,hq0⟩ : ∃ q0 : Plc,q0 = (p1,false):=⟨_,rfl⟩
       have HQ0:=qH hq0
       go_loopw [20] (fun i wr => ∃ (j : Nat) (a : Option Addr) (c : Nat),i = .int .i64 j /\ (j : Int) <= n /\ Hid (okTo t q0 j = true) /\ Hid (RB wr b t ((plAt t q0 j).1 : Int)) /\ Hid ((plAt t q0 j).2 = false) /\ Hid ((plAt t q0 j).1 <= t.size) /\ Hid (BoxC wr h [.slice a j c]) /\ Hid (wr.ownsRow w2.heap.size 145 ddE.k (.slice a j c) j (ddE.flat (ddsTo t q0 j))) /\ Hid (Below h w wr) /\ w2.heap.size <= wr.heap.size) (fun i _ => n.toNat - (intOf i).toNat)
       case atStart => exact ⟨0,none,0,rfl,by omega,rfl,by rw [hq0];exact HR2,by rw [hq0];rfl,by rw [hq0];exact hp1,HL2,World.ownsRow_nil _ _ _ _,HB2,Nat.le_refl _⟩
       case round =>
        obtain ⟨j,a,c,rfl,hj,HOK,HRj,HPF,HPL,HLj,HOj,HBj,hsz⟩:=hrel
        by_cases hlt : (j : Int) < n
        · obtain ⟨pj,hpj⟩ : ∃ pj,plAt t q0 j = (pj,false):=⟨_,Prod.ext rfl HPF.out⟩
          have HPJ:=qH hpj
          rw [hpj] at HRj HPL
          dsimp only at HRj HPL
          clear hpj HPF
          have hmx : Tryz.prog.follows .mixedOrders = true:=by kernel_rfl
          by_cases hd : okDeed t (pj,false) = true
          · go_wp2_with fail
            obtain ⟨ti,hi,hz,hsy,hy⟩:=info_parts infoDeed
            refine TillZ.region (t:=5) hmx (fun u => BoxC u h [.slice a j c]) ?_
            have HR0:=qH HRj.out.drew
            have HL0:=qH HLj.out.drew
            have HO0:=qH (own_below HOj.out (Below.refl _ _).drew)
            have HB0:=qH HBj.out.drew
            have hsz0 : w2.heap.size <= wr.drew.heap.size:=hsz
            have hS0:=HL0.out
            clear HRj HLj HOj HBj hsz
            generalize wr.drew = u0 at *
            refine TillZ.take4 (i:=0) (v:=.slice a j c) rfl rfl rfl (by kernel_rfl) hS0 (fun u hu => by have z0:=hu.cell 0 _ rfl;go_simp) ?_
            simp only [pS,List.set,zT,zZ]
            refine TillZ.take4 (i:=1) (v:=.pointer (some ⟨b,0,none⟩)) rfl rfl rfl (by kernel_rfl) hS0 (fun u hu => by go_simp) ?_
            simp only [pS,List.set,zT,zZ,zU]
            refine TillZ.call (i:=2) (f:=130) (args:=#[.pointer (some ⟨b,0,none⟩)]) (by kernel_rfl) rfl rfl (by kernel_rfl) (by go_simp) ?_
            refine Calls.mono (deedIn_any b t pj u0 HR0.out hf8 HPL.out) ?_
            rintro e u1 ⟨hx,hg⟩
            rcases hx.symm with ⟨hno,_⟩ | ⟨_,rfl,hr⟩
            · exact absurd hno (by rw [hd];decide)
            have HR1:=qH hr
            have HL1:=qH (HL0.out.kept hg hne)
            have HB1:=qH (below_kept HB0.out hg (Nat.le_of_lt HL0.out.lt) (Nat.le_of_lt hhb))
            have HO1:=qH (HO0.out.kept hg (Or.inr (fun e => by have:=(HO0.out.lt b e).1;omega)))
            have hsz1 : w2.heap.size <= u1.heap.size:=Nat.le_trans hsz0 hg.size
            clear hr hg hS0 HL0 HB0 HO0 HR0 hsz0
            refine ⟨_,rfl,HL1.out,?_⟩
            obtain ⟨D,hD⟩ : ∃ D,D = (rdDeed t (pj,false)).1:=⟨_,rfl⟩
            rw [<- hD]
            have HDD:=qH hD
            clear hD
            unfold ddV
            simp only [pS,List.set,zT,zZ,zU]
            have HX2 : Hid (SR ddE ddD (u1.alloc (.cells #[.int .i64 D.kd,.int .i64 D.gn,.int .i64 D.nd,.int .i64 D.mn,.int .i64 D.ck,.int .i64 D.no,.string D.lk,.string D.nm,.int .i64 D.tm,.string D.bd] 145)) (some ⟨u1.heap.size,0,none⟩) 1 1 [D]):=qH (SR.own (by decide) (World.ownsRow_lit u1 #[.int .i64 D.kd,.int .i64 D.gn,.int .i64 D.nd,.int .i64 D.mn,.int .i64 D.ck,.int .i64 D.no,.string D.lk,.string D.nm,.int .i64 D.tm,.string D.bd] 1 (Nat.le_refl _) (by decide) rfl))
            have hal : Below u1.heap.size u1 (u1.alloc (.cells #[.int .i64 D.kd,.int .i64 D.gn,.int .i64 D.nd,.int .i64 D.mn,.int .i64 D.ck,.int .i64 D.no,.string D.lk,.string D.nm,.int .i64 D.tm,.string D.bd] 145)):=(Below.refl _ _).alloc (Nat.le_refl _) _
            have HL2':=qH (HL1.out.below hal)
            have HR2':=qH (HR1.out.below hal)
            have HB2':=qH (HB1.out.trans (hal.mono (Nat.le_of_lt HL1.out.lt)))
            have HO2':=qH (own_below HO1.out hal)
            have hsz2 : w2.heap.size <= (u1.alloc (.cells #[.int .i64 D.kd,.int .i64 D.gn,.int .i64 D.nd,.int .i64 D.mn,.int .i64 D.ck,.int .i64 D.no,.string D.lk,.string D.nm,.int .i64 D.tm,.string D.bd] 145)).heap.size:=Nat.le_trans hsz1 hal.size
            refine TillZ.one (i:=3) (by kernel_rfl) ?_
            refine TillZ.opz (i:=3) (v:=.slice (some ⟨u1.heap.size,0,none⟩) 1 1) (w':=u1.alloc (.cells #[.int .i64 D.kd,.int .i64 D.gn,.int .i64 D.nd,.int .i64 D.mn,.int .i64 D.ck,.int .i64 D.no,.string D.lk,.string D.nm,.int .i64 D.tm,.string D.bd] 145)) rfl rfl rfl (by go_simp) HL2'.out ?_
            simp only [pS,List.set,zT,zZ,zU]
            clear hal HL1 HR1 HB1 HO1 hsz1
            generalize u1.alloc (.cells #[.int .i64 D.kd,.int .i64 D.gn,.int .i64 D.nd,.int .i64 D.mn,.int .i64 D.ck,.int .i64 D.no,.string D.lk,.string D.nm,.int .i64 D.tm,.string D.bd] 145) = u2 at *
            refine TillZ.one (i:=4) (by kernel_rfl) ?_
            refine append_opz ddE ddD (i:=4) (.tmp 22) (.tmp 25) 123 rfl rfl rfl rfl 145 ti _ _ Tryz.underlying123 hi hz hsy hy rfl (by decide) (by decide) w2.heap.size (.slice a j c) j (ddsTo t q0 j) rfl HO2'.out _ 1 1 [D] rfl HX2.out hsz2 (by omega) (by omega) (fun v3 u3 O3 G3 => ?_)
            have HL3:=qH (HL2'.out.grown G3 (fun e => by have:=(HO2'.out.lt h e.symm).1;omega))
            have HR3:=qH (show RB u3 b t _ from ⟨Nat.lt_of_lt_of_le HR2'.out.lt G3.size,(World.cell?_of_block (a:=⟨b,0,none⟩) (G3.block b HR2'.out.lt (fun e => by have:=(HO2'.out.lt b e.symm).1;omega))).trans HR2'.out.c0,(World.cell?_of_block (a:=⟨b,1,none⟩) (G3.block b HR2'.out.lt (fun e => by have:=(HO2'.out.lt b e.symm).1;omega))).trans HR2'.out.c1,(World.frozen?_of_block (a:=⟨b,1,none⟩) (G3.block b HR2'.out.lt (fun e => by have:=(HO2'.out.lt b e.symm).1;omega))).trans HR2'.out.free⟩)
            have HB3:=qH (HB2'.out.grown G3 (Nat.le_of_lt HL2'.out.lt) (fun k hk => by have:=(HO2'.out.lt k hk).1;omega))
            have hsz3 : w2.heap.size <= u3.heap.size:=Nat.le_trans hsz2 G3.size
            obtain ⟨a',c',rfl⟩:=own_shape O3
            have HO3:=qH O3
            refine ⟨HL3.out,?_⟩
            simp only [pS,List.set,zT,zZ,zU]
            clear O3 G3 HL2' HR2' HB2' HO2' hsz2 HX2
            have z0:=HL3.out.cell 0 _ rfl
            have f0:=HL3.out.free 0
            have zlt:=HL3.out.lt
            refine TillZ.hand_skip (w':=u3.setCell ⟨h,0,none⟩ (.slice a' (j + 1) c')) (by kernel_rfl) rfl rfl (by go_simp) ?_
            simp only [pN,zT,zZ,zU]
            refine TillZ.any_done (by kernel_rfl) ?_ _
            clear z0 f0 zlt
            go_wp2_with fail
            go_roundw
            case rel => exact ⟨j + 1,a',c',by go_num,by omega,by unfold Hid;rw [okTo_succ,HOK.out,HPJ.out,hd];rfl,by unfold Hid;show RB _ b t (((rdDeed t (plAt t q0 j)).2.1 : Nat) : Int);rw [HPJ.out];exact HR3.out.other h 0 _ hne,by unfold Hid;show (rdDeed t (plAt t q0 j)).2.2 = false;rw [HPJ.out];exact (okDeed_iff.1 hd).1,by unfold Hid;show (rdDeed t (plAt t q0 j)).2.1 <= _;rw [HPJ.out];exact rdDeed_le HPL.out,HL3.out.set (j:=0) (by simp) _,by unfold Hid;rw [ddsTo_succ];unfold ddAt;rw [HPJ.out,<- HDD.out];exact own_other HO3.out (b:=h) (fun g hg => by have:=(HO3.out.lt g hg).1;omega) _ _ rfl,HB3.out.setCell (p:=⟨h,0,none⟩) (Nat.le_refl _) _,by simpa using hsz3⟩
            case measure => simp [intOf];omega
          · have hd2 : okDeed t (pj,false) = false:=by cases hx : okDeed t (pj,false) <;> simp_all
            have HBAD : Hid (∀ u,RB u b t (pj : Int) -> Calls Tryz.prog 130 #[.pointer (some ⟨b,0,none⟩)] u fun e w' => e = .panicked [{ v:=errV 3,recovered:=false }] /\ u.grownBy w' (some b)):=qH (fun u hu => (deedIn_any b t pj u hu hf8 HPL.out).mono (fun e w' hh => by
             obtain ⟨hx,hg⟩:=hh
             rcases hx with ⟨hno,_⟩ | ⟨_,he⟩
             · rw [hd2] at hno;cases hno
             · exact ⟨he,hg⟩))
            have HRT : Hid (rdTx t = []):=qH (rdTx_no (by rw [HE.out];dsimp only;rw [<- HQ0.out];rintro ⟨_,_,hk,_⟩;rw [okTo_no (n:=n.toNat) (i:=j) (by rw [HPJ.out];exact hd2) (by omega)] at hk;cases hk))
            have hcl:=HLj.out.cell 0 _ rfl
            have HR0:=qH HRj.out.drew
            have HL0:=qH HLj.out.drew
            have HB0:=qH HBj.out.drew
            go_wp2_with fail
            have hFn : wr.drew.cell? ⟨h,0,none⟩ = some (.slice a j c):=hcl
            refine region_any hmx ?_
            clear HRj HLj HBj HOj hcl hsz
            generalize wr.drew = u0 at *
            refine any_two (i:=0) (j:=1) (by kernel_rfl) ?_ ?_
            · refine op_value (v:=.slice a j c) rfl rfl (by go_simp) ?_
              simp only [pS,List.set,zT,zZ]
              refine any_one (i:=1) (by kernel_rfl) ?_
              refine op_value (v:=.pointer (some ⟨b,0,none⟩)) rfl rfl (by go_simp) ?_
              simp only [pS,List.set,zT,zZ,zU]
              refine any_one (i:=2) (by kernel_rfl) ?_
              refine op_panic (f:=130) (args:=#[.pointer (some ⟨b,0,none⟩)]) rfl rfl (by go_simp) ?_
              refine Calls.mono (HBAD.out _ HR0.out) ?_
              rintro e u1 ⟨rfl,hg⟩
              have HL1:=qH (HL0.out.kept hg hne)
              have HB1:=qH (below_kept HB0.out hg (Nat.le_of_lt HL0.out.lt) (Nat.le_of_lt hhb))
              clear hg
              refine ⟨_,rfl,?_⟩
              go_wp2_with fail
              refine leaves_cons (f:=126) (args:=#[.pointer (some ⟨h,0,none⟩)]) (by simp) (by simp [go_sem]) ?_
              refine (catchQ_panicking h 3 _ u1 (HL1.out.cell 0 _ rfl) (HL1.out.free 0)).mono ?_
              rintro e u' w9 ⟨rfl,rfl,r0,hb9⟩
              have hbl:=HB1.out.trans hb9
              rw [HHE.out] at hbl
              exact leaves_ret (v:=.slice none 0 0) (by simp [results,Tryz.results99,go_sem,r0]) ⟨none,0,0,rfl,by rw [HRP.out,HRT.out];exact World.ownsRow_nil _ _ _ _,hbl⟩
            · refine op_value (v:=.pointer (some ⟨b,0,none⟩)) rfl rfl (by go_simp) ?_
              simp only [pS,List.set,zT,zZ,zU]
              refine any_two (i:=0) (j:=2) (by kernel_rfl) ?_ ?_
              · refine op_value (v:=.slice a j c) rfl rfl (by go_simp) ?_
                simp only [pS,List.set,zT,zZ]
                refine any_one (i:=2) (by kernel_rfl) ?_
                refine op_panic (f:=130) (args:=#[.pointer (some ⟨b,0,none⟩)]) rfl rfl (by go_simp) ?_
                refine Calls.mono (HBAD.out _ HR0.out) ?_
                rintro e u1 ⟨rfl,hg⟩
                have HL1:=qH (HL0.out.kept hg hne)
                have HB1:=qH (below_kept HB0.out hg (Nat.le_of_lt HL0.out.lt) (Nat.le_of_lt hhb))
                clear hg
                refine ⟨_,rfl,?_⟩
                go_wp2_with fail
                refine leaves_cons (f:=126) (args:=#[.pointer (some ⟨h,0,none⟩)]) (by simp) (by simp [go_sem]) ?_
                refine (catchQ_panicking h 3 _ u1 (HL1.out.cell 0 _ rfl) (HL1.out.free 0)).mono ?_
                rintro e u' w9 ⟨rfl,rfl,r0,hb9⟩
                have hbl:=HB1.out.trans hb9
                rw [HHE.out] at hbl
                exact leaves_ret (v:=.slice none 0 0) (by simp [results,Tryz.results99,go_sem,r0]) ⟨none,0,0,rfl,by rw [HRP.out,HRT.out];exact World.ownsRow_nil _ _ _ _,hbl⟩
              · skip
                refine op_panic (f:=130) (args:=#[.pointer (some ⟨b,0,none⟩)]) rfl rfl (by go_simp) ?_
                refine Calls.mono (HBAD.out _ HR0.out) ?_
                rintro e u1 ⟨rfl,hg⟩
                have HL1:=qH (HL0.out.kept hg hne)
                have HB1:=qH (below_kept HB0.out hg (Nat.le_of_lt HL0.out.lt) (Nat.le_of_lt hhb))
                clear hg
                refine ⟨_,rfl,?_⟩
                go_wp2_with fail
                refine leaves_cons (f:=126) (args:=#[.pointer (some ⟨h,0,none⟩)]) (by simp) (by simp [go_sem]) ?_
                refine (catchQ_panicking h 3 _ u1 (HL1.out.cell 0 _ rfl) (HL1.out.free 0)).mono ?_
                rintro e u' w9 ⟨rfl,rfl,r0,hb9⟩
                have hbl:=HB1.out.trans hb9
                rw [HHE.out] at hbl
                exact leaves_ret (v:=.slice none 0 0) (by simp [results,Tryz.results99,go_sem,r0]) ⟨none,0,0,rfl,by rw [HRP.out,HRT.out];exact World.ownsRow_nil _ _ _ _,hbl⟩
        · have hjn : n = (j : Int):=by omega
          have hc0:=HRj.out.c0
          have hc1:=HRj.out.c1
          have HTN : Hid (n.toNat = j):=qH (by omega)
          by_cases hps : (plAt t q0 j).1 = t.size
          · have hpe : (((plAt t q0 j).1 : Int) == (t.size : Int)) = true:=by rw [hps];exact beq_self_eq_true _
            have HRT : Hid (rdTx t = ddsTo t q0 j):=qH (by
             rw [rdTx_yes (by rw [HE.out];dsimp only;rw [<- HQ0.out,HTN.out];exact ⟨hn1,hn2,HOK.out,hps⟩),HE.out]
             dsimp only
             rw [<- HQ0.out,HTN.out])
            clear hps
            generalize (plAt t q0 j).1 = pj at *
            go_wp2_with fail
            go_still_tail 10,(by kernel_rfl)
            change wpList _ _ _ _ _ wr.drew
            have HLd:=qH HLj.out.drew
            have HOd:=qH (own_below HOj.out (Below.refl _ _).drew)
            have HBd:=qH HBj.out.drew
            clear HRj HLj HOj HBj hc0 hc1 hpe
            generalize wr.drew = u0 at *
            go_wp2_with fail
            refine (must_yes _).mono ?_
            rintro e u1 ⟨rfl,rfl⟩
            have z0:=HLd.out.cell 0 _ rfl
            have f0:=HLd.out.free 0
            have zlt:=HLd.out.lt
            go_wp2_with fail
            refine leaves_cons (f:=126) (args:=#[.pointer (some ⟨h,0,none⟩)]) (by simp) (by simp [go_sem]) ?_
            refine (catchQ_idle h _).mono ?_
            rintro e u' w9 ⟨rfl,rfl,rfl⟩
            refine leaves_ret (v:=.slice a j c) (by simp [results,Tryz.results99,go_sem,z0]) ?_
            refine ⟨a,j,c,rfl,?_,?_⟩
            · rw [HRP.out,HRT.out]
              exact own_mono (own_other HOd.out (b:=h) (fun g hg => by have:=(HOd.out.lt g hg).1;omega) _ _ rfl) (by rw [<- HHE.out] at *;omega)
            · have hbl:=HBd.out.setCell (p:=⟨h,0,none⟩) (Nat.le_refl _) (.slice a j c)
              rw [HHE.out] at hbl ⊢
              exact hbl
          · have hpe : (((plAt t q0 j).1 : Int) == (t.size : Int)) = false:=by rw [beq_eq_false_iff_ne];omega
            have HRT : Hid (rdTx t = []):=qH (rdTx_no (by rw [HE.out];dsimp only;rw [<- HQ0.out,HTN.out];rintro ⟨_,_,_,hk⟩;exact hps hk))
            clear hps
            generalize (plAt t q0 j).1 = pj at *
            go_wp2_with fail
            go_still_tail 10,(by kernel_rfl)
            change wpList _ _ _ _ _ wr.drew
            have HLd:=qH HLj.out.drew
            have HBd:=qH HBj.out.drew
            clear HRj HLj HOj HBj hc0 hc1 hpe
            generalize wr.drew = u0 at *
            go_wp2_with fail
            refine (must_no _).mono ?_
            rintro e u1 ⟨rfl,rfl⟩
            go_wp2_with fail
            refine leaves_cons (f:=126) (args:=#[.pointer (some ⟨h,0,none⟩)]) (by simp) (by simp [go_sem]) ?_
            refine (catchQ_panicking h 3 _ u0 (HLd.out.cell 0 _ rfl) (HLd.out.free 0)).mono ?_
            rintro e u' w9 ⟨rfl,rfl,r0,hb9⟩
            have hbl:=HBd.out.trans hb9
            rw [HHE.out] at hbl
            exact leaves_ret (v:=.slice none 0 0) (by simp [results,Tryz.results99,go_sem,r0]) ⟨none,0,0,rfl,by rw [HRP.out,HRT.out];exact World.ownsRow_nil _ _ _ _,hbl⟩
     · have HRT : Hid (rdTx t = []):=qH (rdTx_no (by rw [HE.out];dsimp only;rintro ⟨h1,h2,_⟩;exact hn ⟨h1,h2⟩))
       by_cases hn1 : 1 <= n
       · have hn2 : ¬ n <= 10:=fun h => hn ⟨hn1,h⟩
         clear hn
         go_wp2_with fail
         rw [show decide (n <= 10) = false from decide_eq_false (by omega)]
         refine (must_no _).mono ?_
         rintro e u1 ⟨rfl,rfl⟩
         go_wp2_with fail
         refine leaves_cons (f:=126) (args:=#[.pointer (some ⟨h,0,none⟩)]) (by simp) (by simp [go_sem]) ?_
         refine (catchQ_panicking h 3 _ w2 (HL2.out.cell 0 _ rfl) (HL2.out.free 0)).mono ?_
         rintro e u' w9 ⟨rfl,rfl,r0,hb9⟩
         have hbl:=HB2.out.trans hb9
         rw [HHE.out] at hbl
         exact leaves_ret (v:=.slice none 0 0) (by simp [results,Tryz.results99,go_sem,r0]) ⟨none,0,0,rfl,by rw [HRP.out,HRT.out];exact World.ownsRow_nil _ _ _ _,hbl⟩
       · clear hn
         go_wp2_with fail
         refine (must_no _).mono ?_
         rintro e u1 ⟨rfl,rfl⟩
         go_wp2_with fail
         refine leaves_cons (f:=126) (args:=#[.pointer (some ⟨h,0,none⟩)]) (by simp) (by simp [go_sem]) ?_
         refine (catchQ_panicking h 3 _ w2 (HL2.out.cell 0 _ rfl) (HL2.out.free 0)).mono ?_
         rintro e u' w9 ⟨rfl,rfl,r0,hb9⟩
         have hbl:=HB2.out.trans hb9
         rw [HHE.out] at hbl
         exact leaves_ret (v:=.slice none 0 0) (by simp [results,Tryz.results99,go_sem,r0]) ⟨none,0,0,rfl,by rw [HRP.out,HRT.out];exact World.ownsRow_nil _ _ _ _,hbl⟩
   · have HNO:=qH (sN_no (u:=t) (q:=(0,false)) hc)
     have HRT : Hid (rdTx t = []):=qH (rdTx_no (by rw [HNO.out];dsimp only;rintro ⟨h1,_⟩;exact absurd h1 (by decide)))
     refine (num_bad b t 0 _ HRV.out hf8 (Nat.zero_le _) hc).mono ?_
     rintro e w2 ⟨rfl,hb⟩
     have HL2:=qH (HLV.out.below hb)
     have HB2:=qH (HBV.out.trans (hb.mono (Nat.le_of_lt HLV.out.lt)))
     clear hb hc
     go_wp2_with fail
     refine leaves_cons (f:=126) (args:=#[.pointer (some ⟨h,0,none⟩)]) (by simp) (by simp [go_sem]) ?_
     refine (catchQ_panicking h 3 _ w2 (HL2.out.cell 0 _ rfl) (HL2.out.free 0)).mono ?_
     rintro e u' w9 ⟨rfl,rfl,r0,hb9⟩
     have hbl:=HB2.out.trans hb9
     rw [HHE.out] at hbl
     exact leaves_ret (v:=.slice none 0 0) (by simp [results,Tryz.results99,go_sem,r0]) ⟨none,0,0,rfl,by rw [HRP.out,HRT.out];exact World.ownsRow_nil _ _ _ _,hbl⟩
 · have HRP : Hid (rdPart s = []):=qH (by unfold rdPart;rw [if_neg hc])
   obtain ⟨c,hcc⟩ : ∃ c,c = (openS s).2.2:=⟨_,rfl⟩
   have HCC:=qH hcc
   clear hcc
   go_enter_defers Tryz.func99,Tryz.ntmps99
   go_wp2_with fail
   rw [<- hW,<- hh]
   clear hW hh
   refine (unsealed_bad s _ hs HG0.out hc).mono ?_
   rintro e w1 ⟨rfl,hb⟩
   have HL1:=qH (HL0.out.below hb)
   have HB1:=qH (HB0.out.trans (hb.mono (Nat.le_of_lt HL0.out.lt)))
   rw [<- HCC.out]
   clear hb hc
   go_wp2_with fail
   refine leaves_cons (f:=126) (args:=#[.pointer (some ⟨h,0,none⟩)]) (by simp) (by simp [go_sem]) ?_
   refine (catchQ_panicking h c _ w1 (HL1.out.cell 0 _ rfl) (HL1.out.free 0)).mono ?_
   rintro e u' w9 ⟨rfl,rfl,r0,hb9⟩
   have hbl:=HB1.out.trans hb9
   rw [HHE.out] at hbl
   exact leaves_ret (v:=.slice none 0 0) (by simp [results,Tryz.results99,go_sem,r0]) ⟨none,0,0,rfl,by rw [HRP.out];exact World.ownsRow_nil _ _ _ _,hbl⟩
def txF (s : ByteArray) : Nat -> Nat -> List (List Dd)
 | 0,_ => []
 | f + 1,p => if (getT s (p : Int)).2.2 = 0 then (if rdPart (getT s (p : Int)).1 = [] then [] else rdPart (getT s (p : Int)).1 :: txF s f (getT s (p : Int)).2.1.toNat) else []
def txRd (s : ByteArray) : List (List Dd):=txF s (s.size + 1) 0
theorem txF_no {s : ByteArray} {f p : Nat} (h : ¬ (getT s (p : Int)).2.2 = 0) : txF s f p = []:=by
 cases f with
 | zero => rfl
 | succ f => unfold txF;rw [if_neg h]
theorem txF_end {s : ByteArray} {f p : Nat} (h : rdPart (getT s (p : Int)).1 = []) : txF s f p = []:=by
 cases f with
 | zero => rfl
 | succ f =>
  unfold txF
  split <;> first | rfl | rw [if_pos h]
theorem txF_go {s t : ByteArray} {f p p' : Nat} (h : getT s (p : Int) = (t,(p' : Int),0)) (hr : ¬ rdPart t = []) : txF s (f + 1) p = rdPart t :: txF s f p':=by
 conv => lhs;unfold txF
 rw [h]
 rw [if_pos rfl,if_neg hr]
 rfl
theorem txt_far {u : ByteArray} {a : Nat} (h : (txtS u a).2.2 = 0) : (a : Int) < (txtS u a).2.1 /\ (txtS u a).2.1 <= (u.size : Int):=by
 unfold txtS at h ⊢
 split at h
 · rename_i h1;exact absurd h h1
 · rename_i h1
   rw [if_neg h1]
   split at h
   · exact absurd h (by decide)
   · rename_i h2
     rw [if_neg h2]
     split at h
     · exact absurd h (by decide)
     · rename_i h3
       rw [if_neg h3]
       have hp:=rd_place u a 10 0 0 (by simpa using h1)
       dsimp only
       omega
theorem getT_step {s : ByteArray} {p : Nat} (h : (getT s (p : Int)).2.2 = 0) : ∃ t p',getT s (p : Int) = (t,((p' : Nat) : Int),0) /\ p < p' /\ p' <= s.size /\ t.size <= maxLen /\ s.size <= 8000:=by
 by_cases hl : 8000 < s.size
 · rw [getT_size hl] at h;exact absurd h (by decide)
 · rw [getT_read hl] at h ⊢
   obtain ⟨t,p',_,hy,hp,ht⟩:=sT_step (by omega) h
   have hf:=txt_far h
   rw [hy] at hf
   dsimp only at hf
   exact ⟨t,p',hy,by omega,hp,ht,by omega⟩
theorem getT_zero {s : ByteArray} {p : Nat} (h : ¬ (getT s (p : Int)).2.2 = 0) : getT s (p : Int) = (⟨#[]⟩,0,(getT s (p : Int)).2.2):=by
 by_cases hl : 8000 < s.size
 · rw [getT_size hl]
 · rw [getT_read hl] at h ⊢
   exact txt_zero s p h
structure Rw where
 a : Option Addr
 n : Nat
 c : Nat
 l : List Dd
abbrev Rw.v (r : Rw) : Value:=.slice r.a r.n r.c
def rwD : Rw:=⟨none,0,0,[]⟩
def rwE : Enc Rw:=⟨1,fun r => [.slice r.a r.n r.c],fun _ => rfl,fun _ v hv => by simp at hv;subst hv;rfl⟩
theorem infoDeeds : (Tryz.prog.info? 123).map (fun i => (i.zero,i.size,i.bytes)) = some (some (Value.slice none 0 0),1,24):=by kernel_rfl
structure SS (w : World) (B : Nat) (v : Value) (rs : List Rw) : Prop where
 out : w.ownsRow B 123 rwE.k v rs.length (rwE.flat rs)
 row : ∀ i,i < rs.length -> w.ownsRow B 145 ddE.k (rs.getD i rwD).v (rs.getD i rwD).n (ddE.flat (rs.getD i rwD).l)
 dis : ∀ i j,i < j -> j < rs.length -> Disj (rs.getD i rwD).v (rs.getD j rwD).v
theorem SS.nil (w : World) (B : Nat) : SS w B (.slice none 0 0) []:=⟨World.ownsRow_nil _ _ _ _,fun i hi => absurd hi (Nat.not_lt_zero _),fun i j _ hj => absurd hj (Nat.not_lt_zero _)⟩
theorem SS.below {w w' : World} {B : Nat} {v : Value} {rs : List Rw} (h : SS w B v rs) (hb : Below w.heap.size w w') : SS w' B v rs :=
 ⟨own_below h.out hb,fun i hi => own_below (h.row i hi) hb,h.dis⟩
theorem SS.push {w w' : World} {B : Nat} {v v' : Value} {rs : List Rw} {r : Rw} (h : SS w B v rs) (hr : w.ownsRow B 145 ddE.k r.v r.n (ddE.flat r.l)) (hd : ∀ i,i < rs.length -> Disj (rs.getD i rwD).v r.v)
 (ho : w'.ownsRow B 123 rwE.k v' (rs.length + 1) (rwE.flat (rs ++ [r]))) (hg : w.grownBy w' v.ownBlock) : SS w' B v' (rs ++ [r]):=by
 have hl : (rs ++ [r]).length = rs.length + 1:=by simp
 have e1 : ∀ i,i < rs.length -> (rs ++ [r]).getD i rwD = rs.getD i rwD:=fun i hi => by simp [List.getD,List.getElem?_append_left hi]
 have e2 : (rs ++ [r]).getD rs.length rwD = r:=by simp [List.getD]
 refine ⟨by rw [hl];exact ho,fun i hi => ?_,fun i j hij hj => ?_⟩
 · rcases Nat.lt_or_ge i rs.length with h1 | h1
   · rw [e1 i h1]
     exact own_grown (h.row i h1) hg (own_types (h.row i h1) h.out (by decide))
   · obtain rfl : i = rs.length:=by omega
     rw [e2]
     exact own_grown hr hg (own_types hr h.out (by decide))
 · rcases Nat.lt_or_ge j rs.length with h1 | h1
   · rw [e1 j h1,e1 i (by omega)]
     exact h.dis i j hij h1
   · obtain rfl : j = rs.length:=by omega
     rw [e2,e1 i hij]
     exact hd i hij
def NewSS (ls : List (List Dd)) (w : World) (e : Ending) (w' : World) : Prop :=
 ∃ a n c rs,e = .returned (.slice a n c) /\ n = rs.length /\ SS w' w.heap.size (.slice a n c) rs /\ rs.map Rw.l = ls /\ Below w.heap.size w w'
end Go.Proofs.YthkbcjnbmciolaaGreatDoor
