/- Used by the law. -/
import Derived.Test.YthkbcjnbmciolaaGreatDoorQV30
set_option maxRecDepth 100000
set_option maxHeartbeats 16000000
namespace Go.Proofs.YthkbcjnbmciolaaGreatDoor
open Go.RowKit Go.PlainAid G MGet MGF IRow MNum MJoin
set_option linter.unusedVariables false
theorem own_bs {w : World} {base n : Nat} {e : TypeId} {v : Value} {s : ByteArray} (h : w.ownsRow base e 1 v n (Lib.strCells s)) : ∃ a c,v = .slice a n c /\ BS w base a n c s:=by
 have hn : n = s.size:=by have:=h.1;rw [Lib.strCells_length] at this;omega
 rcases h.2 with ⟨hv,h0⟩ | ⟨g,c,cur,hv,hbg,hg,hnc,_⟩
 · subst hv
   have hz : n = 0:=by omega
   subst hz
   exact ⟨none,0,rfl,hn,Nat.le_refl _,.inl ⟨rfl,rfl⟩⟩
 · subst hv
   refine ⟨some ⟨g,0,none⟩,c,rfl,hn,hnc,.inr ⟨g,0,rfl,hbg,(h.lt g rfl).2,bytes_of_cells fun j u hu => ?_⟩⟩
   have:=h.cells rfl j u hu
   rwa [Addr.add_lit] at this
theorem strCells_append (s t : ByteArray) : Lib.strCells s ++ Lib.strCells t = Lib.strCells (s ++ t):=(byteCells_append s t).symm
theorem catS_snoc (ps : List ByteArray) (a : ByteArray) : catS (ps ++ [a]) = catS ps ++ a:=by
 have:=catS_more ps a ⟨#[]⟩
 rw [show catS (ps ++ [a,⟨#[]⟩]) = catS (ps ++ [a]) from by simp [catS,catL],show a ++ (⟨#[]⟩ : ByteArray) = a from ByteArray.append_empty] at this
 exact this
theorem whole_any (s : ByteArray) (w : World) (hs : s.size <= maxLen) :
 Calls Tryz.prog 76 #[.string s] w fun e w' => e = .returned (.string (bytesOf (txRd s))) /\ Below w.heap.size w w':=by
 have HTL:=qH (txRd_len s)
 have HTF:=qH (txRd_fits s)
 have HTR:=qH (txRd_right s)
 obtain ⟨i0,hi,hz0,hz1,hz2⟩:=info_parts infoU8
 go_enter Tryz.func76,Tryz.ntmps76
 go_wp2_with fail
 refine (specTxRead_any s w hs).mono ?_
 rintro e w1 ⟨va,n,vc,rs,rfl,hn,hS,hm,hb⟩
 obtain ⟨hl,hSS,hten⟩:=hS.info hm
 have HLN : Hid ((txRd s).length = n):=qH (hn.trans hl).symm
 have HRL : Hid (rs.length = n):=qH hn.symm
 have HSL:=qH hSS
 have HB1:=qH hb
 have hn8 : n <= 8001:=by rw [<- HLN.out];exact HTL.out
 clear hS hm hb hSS hl hten hn
 obtain ⟨W,hW⟩ : ∃ W,W = w1.alloc (.cells #[] 5):=⟨_,rfl⟩
 have HO0 : Hid (W.ownsRow w1.heap.size 5 1 (.slice (some ⟨w1.heap.size,0,none⟩) 0 0) 0 []):=qH (by rw [hW];exact World.ownsRow_made w1 #[] 0 (Nat.le_refl _) (by decide) (by simp))
 have HB0 : Hid (Below w1.heap.size w1 W):=qH (by rw [hW];exact (Below.refl _ _).alloc (Nat.le_refl _) _)
 obtain ⟨ls,hls⟩ : ∃ ls,txRd s = ls:=⟨_,rfl⟩
 have HLS:=qH hls
 rw [hls] at HLN HTL HTF HTR HSL
 clear hls
 go_wp2_with fail
 rw [<- hW]
 clear hW
 go_loopw [4,5] (fun v i wr => ∃ k : Nat,k <= n /\ i = .int .i64 k /\ Hid (wr.ownsRow w1.heap.size 5 1 v (catS ((ls.take k).map txS)).size (Lib.strCells (catS ((ls.take k).map txS)))) /\ Hid (Below w1.heap.size w1 wr)) (fun _ i _ => n - (intOf i).toNat)
 case atStart => exact ⟨0,Nat.zero_le _,rfl,HO0,HB0⟩
 case round =>
  obtain ⟨k,hk,rfl,HO,HB⟩:=hrel
  clear HO0 HB0
  by_cases hlt : k < n
  · have hlt2 : k < rs.length:=by rw [HRL.out];exact hlt
    have hs2:=HSL.out.below HB.out
    rw [<- HRL.out] at hs2
    obtain ⟨g,o,rfl,hg,t0,hdd⟩:=hs2.at hlt2
    clear hs2
    have hin : 0 <= (k : Int) /\ (k : Int) < (n : Int):=by omega
    have HTK:=qH (map_txTake (ls:=ls) (k:=k) (by rw [HLN.out];exact hlt))
    have hlk : k < ls.length:=by rw [HLN.out];exact hlt
    have HLM : Hid (LR (ls.getD k [])):=qH (HTR.out _ (by rw [show ls.getD k [] = ls[k] by simp [List.getD,List.getElem?_eq_getElem hlk]];exact List.getElem_mem hlk))
    have HFK:=qH (HTF.out k)
    have HSZ : Hid ((catS ((ls.take k).map txS)).size <= 8010 * 8001):=qH (by
     have h1:=sum_small (ls.take k)
     have h2 : (ls.take k).length <= k:=by rw [List.length_take];omega
     rw [catS_size];omega)
    have HTX : Hid ((txS (ls.getD k [])).size <= 8010):=qH (txS_small _)
    generalize ls.getD k [] = l at *
    generalize (ls.take k).map txS = ps at *
    generalize (rs.getD k rwD).a = ra at *
    generalize (rs.getD k rwD).n = rn at *
    generalize (rs.getD k rwD).c = rc at *
    have hrl : l.length = rn:=hdd.len
    have hrn : rn <= 1048576:=by rw [<- hrl];have:=HLM.out.2.1;omega
    have HDD:=qH hdd
    have HRN:=qH hrl
    clear hdd hrl hlt2 hlk
    go_wp2_with fail
    refine (specTxBytes_any ra rn rc l _ HDD.out hrn (fun t _ => HFK.out t)).mono ?_
    rintro e w5 ⟨rfl,hb⟩
    have hown5:=own_below HO.out hb
    have HO5:=qH hown5
    have HB5:=qH (HB.out.trans (hb.mono HB.out.size))
    have hsz5:=HB5.out.size
    generalize txS l = tx at *
    have hm1 : (catS ps).size + tx.size <= maxLen:=by have:=HSZ.out;have:=HTX.out;unfold maxLen;omega
    have hm2 : (catS ps).size + tx.size <= 140737488355328:=by have:=HSZ.out;have:=HTX.out;omega
    clear hb HO HB t0
    go_wp2_with (at_builtin;refine Lib.wpList_append_own_string _ rfl (.tmp 15) (.tmp 20) 95 9 rfl w1.heap.size 5 i0 Tryz.underlying95 Tryz.underlying9 hi hz0 hz1 hz2 _ _ _ rfl hown5 tx rfl hm1 hm2 hsz5 ?_;intro v' w8 hown8 hg8 _;have HO8:=qH hown8;have HB8:=qH (below_grow HB5.out HO5.out (Nat.le_refl _) hg8 hsz5);clear hown8 hg8 hown5)
    go_roundw
    case rel => exact ⟨k + 1,by omega,by go_num,qH (by rw [HTK.out,catS_snoc,ByteArray.size_append,<- strCells_append];exact HO8.out),HB8⟩
    case measure => simp [intOf];omega
  · obtain rfl : k = n:=by omega
    have HBO : Hid (bytesOf ls = catS ((ls.take k).map txS)):=qH (by rw [List.take_of_length_le (by rw [HLN.out];exact Nat.le_refl _)];rfl)
    generalize catS ((ls.take k).map txS) = q at *
    obtain ⟨ar,cr,rfl,hbs⟩:=own_bs HO.out
    have hcv:=BS.conv (P:=Tryz.prog) 95 9 5 Tryz.underlying95 Tryz.underlying5 Tryz.underlying9 hbs
    clear hbs
    go_wp2_with fail
    go_ret
    exact ⟨ret_string (by rw [HLS.out];exact HBO.out.symm),HB1.out.trans (HB.out.mono HB1.out.size)⟩
end Go.Proofs.YthkbcjnbmciolaaGreatDoor
namespace Go.Proofs.YthkbcjnbmciolaaGreatDoor.HeldZ
open Go
section
variable {P : Program} {ops : Array Oper} {md : Region.Mode} {S : World -> Prop}
def goes (P : Program) (S : World -> Prop) (v : Value) : Result Next -> Prop
 | .ok (.value u) w' => u = v /\ S w'
 | .ok .skip w' => v = undef /\ S w'
 | .ok (.enter f args) w' => Calls P f args w' fun e w'' => e = .returned v /\ S w''
 | _ => False
def GY (P : Program) (ops : Array Oper) (S : World -> Prop) (o : Oper) (v : Value) (a : Act) : Prop :=
 (Region.wanted o (yielded ops a.tmps) = true /\ ∀ w,S w -> goes P S v ((execOp a.eval o).run P w)) ∨ (Region.wanted o (yielded ops a.tmps) = false /\ v = undef)
theorem GY.same {o : Oper} {v : Value} {a a' : Act} (hy : GY P ops S o v a) (he : execOp a'.eval o = execOp a.eval o)
 (hw : Region.wanted o (yielded ops a'.tmps) = Region.wanted o (yielded ops a.tmps)) : GY P ops S o v a':=by
 unfold GY at *
 rw [he,hw]
 exact hy
def hOp (P : Program) (ops : Array Oper) (S : World -> Prop) (i : Nat) (K : Act -> Prop) (a : Act) : Prop:=∃ o v,ops[i]? = some o /\ GY P ops S o v a /\ K (a.put o.dst v)
theorem hOp_mono {i : Nat} {a : Act} {K K' : Act -> Prop} (h : ∀ a,K a -> K' a) (hh : hOp P ops S i K a) : hOp P ops S i K' a:=by
 obtain ⟨o,v,h1,h2,h3⟩:=hh
 exact ⟨o,v,h1,h2,h _ h3⟩
def hAny (P : Program) (md : Region.Mode) (ops : Array Oper) (S : World -> Prop) (K : Act -> Prop) : Nat -> Array Bool -> Act -> Prop
 | 0,listed,a => Region.ready md ops listed = [] /\ K a
 | f + 1,listed,a => (Region.ready md ops listed = [] -> K a) /\ ∀ i ∈ Region.ready md ops listed,hOp P ops S i (hAny P md ops S K f (listed.setIfInBounds i true)) a
theorem hOp_put {j : Nat} {oi oj : Oper} {v : Value} (hj : ops[j]? = some oj) (hap : oi.apart ops oj = true) (hsi : ∀ cs b,oi.op ≠ .select cs b) (hsj : ∀ cs b,oj.op ≠ .select cs b) {K : Act -> Prop} {a : Act}
 (hy : GY P ops S oi v a) (h : hOp P ops S j K (a.put oi.dst v)) : hOp P ops S j (fun a' => GY P ops S oi v a' /\ K (a'.put oi.dst v)) a:=by
 obtain ⟨h1,h2,h3⟩:=Oper.apart_spec hap
 obtain ⟨o,u,ho,hu,hK⟩:=h
 obtain rfl : o = oj:=Option.some.inj (ho.symm.trans hj)
 refine ⟨o,u,hj,hu.same (execOp_put o hsj a oi.dst v h1).symm (wanted_put o a oi.dst v h1).symm,hy.same (execOp_put oi hsi a o.dst u h3) (wanted_put oi a o.dst u h3),?_⟩
 rw [<- Act.put_comm a v u h2]
 exact hK
theorem any_first {K : Act -> Prop} {i : Nat} {oi : Oper} {v : Value} (hi : ops[i]? = some oi) (hsel : ∀ (j : Nat) (o : Oper) cs b,ops[j]? = some o -> o.op ≠ .select cs b) :
 ∀ (f : Nat) (listed : Array Bool) (a : Act),
  (∀ j oj,ops[j]? = some oj -> j ≠ i -> listed.getD j true = false -> (∀ e ∈ oj.after,Region.binds md e = true -> e.on ≠ i) -> oi.apart ops oj = true) →
  i ∈ Region.ready md ops listed -> GY P ops S oi v a →
  hAny P md ops S K f (listed.setIfInBounds i true) (a.put oi.dst v) -> hAny P md ops S K (f + 1) listed a:=by
 intro f
 induction f with
 | zero =>
  intro listed a _ hr hy H
  refine ⟨fun h => (by rw [h] at hr;cases hr),fun j hj => ?_⟩
  by_cases hji : j = i
  · subst hji;exact ⟨oi,v,hi,hy,H⟩
  · have:=ready_mono hj hji
    rw [H.1] at this
    cases this
 | succ f ih =>
  intro listed a hfree hr hy H
  refine ⟨fun h => (by rw [h] at hr;cases hr),fun j hj => ?_⟩
  by_cases hji : j = i
  · subst hji;exact ⟨oi,v,hi,hy,H⟩
  · have h1:=H.2 j (ready_mono hj hji)
    obtain ⟨hjun,oj,hoj,hall⟩:=mem_ready.1 hj
    have hnot : ∀ e ∈ oj.after,Region.binds md e = true -> e.on ≠ i:=fun e he hb heq => by
     have ha:=hall e he hb
     have hb0:=(mem_ready.1 hr).1
     rw [heq] at ha
     rcases Nat.lt_or_ge i listed.size with hl | hl
     · simp [hl] at hb0 ha;rw [hb0] at ha;cases ha
     · simp [Array.getElem?_eq_none hl] at ha
    have h2:=hOp_put hoj (hfree j oj hoj hji hjun hnot) (fun cs b => hsel i oi cs b hi) (fun cs b => hsel j oj cs b hoj) hy h1
    refine hOp_mono (fun a' h3 => ?_) h2
    refine ih (listed.setIfInBounds j true) a' (fun m om hm hmi hmun hno => hfree m om hm hmi (by
     by_cases hjm : j = m
     · rw [<- hjm];exact hjun
     · rw [getD_set_ne true hjm] at hmun;exact hmun) hno) (ready_mono hr (Ne.symm hji)) h3.1 ?_
    rw [Array.setIfInBounds_comm _ _ hji]
    exact h3.2
def hList (P : Program) (ops : Array Oper) (S : World -> Prop) (K : Act -> Prop) : List Oper -> Act -> Prop
 | [],a => K a
 | o :: r,a => ∃ v,GY P ops S o v a /\ hList P ops S K r (a.put o.dst v)
theorem any_lex {K : Act -> Prop} (hs : Region.noSelect ops = true) : ∀ (l : List Oper) (k : Nat) (listed : Array Bool) (a : Act),(∀ j,l[j]? = ops[k + j]?) →
 Region.lexFrom md ops l.length k listed = true -> hList P ops S K l a -> hAny P md ops S K l.length listed a
 | [],_,_,_,_,hB,h => ⟨by simpa [Region.lexFrom] using hB,h⟩
 | o :: l,k,listed,a,hl,hB,h => by
  have h0 : ops[k]? = some o:=by simpa using (hl 0).symm
  simp only [List.length_cons,Region.lexFrom,Bool.and_eq_true] at hB
  obtain ⟨⟨hr,hf⟩,hB'⟩:=hB
  obtain ⟨v,hy,hK⟩:=h
  exact any_first h0 (Region.noSelect_spec hs) l.length listed a (Region.free_spec h0 hf) (by simpa using hr) hy
   (any_lex hs l (k + 1) _ _ (fun j => by have:=hl (j + 1);simpa [Nat.add_assoc,Nat.add_comm 1 j] using this) hB' hK)
theorem op_wp {Q : Exit -> Act -> World -> Prop} {i : Nat} {a : Act} {w : World} {K : Act -> Prop} {K' : Act -> World -> Prop} (hS : S w) (hK : ∀ a w,S w -> K a -> K' a w) (h : hOp P ops S i K a) : wpOp P ops Q i K' a w:=by
 obtain ⟨o,v,ho,hy,hk⟩:=h
 unfold wpOp
 rw [ho]
 dsimp only
 rcases hy with ⟨hw,he⟩ | ⟨hw,rfl⟩
 · rw [if_pos hw]
   refine .inl ?_
   have h1:=he w hS
   unfold Oper.wp
   generalize (execOp a.eval o).run P w = r at *
   cases r with
   | ok x w' =>
    cases x <;> simp only [goes] at h1 <;> first
     | (obtain ⟨rfl,h2⟩:=h1;exact hK _ _ h2 hk)
     | exact Calls.mono h1 (fun e w'' he2 => by obtain ⟨rfl,h2⟩:=he2;exact hK _ _ h2 hk)
   | halt x w' => exact (h1 : False).elim
 · rw [if_neg (by rw [hw];decide)]
   exact hK _ _ hS hk
theorem any_wp {Q : Exit -> Act -> World -> Prop} {K : Act -> Prop} (hQ : ∀ a w,S w -> K a -> Q .normal a w) : ∀ (f : Nat) (listed : Array Bool) (a : Act) (w : World),S w -> hAny P md ops S K f listed a -> wpAny P md ops Q f listed a w
 | 0,_,_,_,hS,h => ⟨h.1,hQ _ _ hS h.2⟩
 | f + 1,_,_,_,hS,h => ⟨fun h0 => hQ _ _ hS (h.1 h0),fun i hi => op_wp hS (fun a' w' hS' hk => any_wp hQ f _ a' w' hS' hk) (h.2 i hi)⟩
theorem region {id : Nat} {Q : Exit -> Act -> World -> Prop} {a : Act} {w : World} {l : List Oper} (hm : P.follows .mixedOrders = true) (S : World -> Prop) (hB : Region.lexB .any l.toArray = true) (hS : S w.drew)
 (h : hList P l.toArray S (fun a' => ∀ w',S w' -> Q .normal a' w') l a) : (Code.region id l.toArray true).wp P Q a w:=by
 simp only [Region.lexB,Bool.and_eq_true] at hB
 refine wp_region_any hm (any_wp (K:=fun a' => ∀ w',S w' -> Q .normal a' w') (fun a w hS h => h w hS) _ _ _ _ hS ?_)
 have:=any_lex (md:=.any) hB.1 l 0 (Array.replicate l.toArray.size false) a (by simp) (by simpa using hB.2) h
 simpa using this
theorem nil {K : Act -> Prop} {a : Act} (h : K a) : hList P ops S K [] a:=h
theorem value {K : Act -> Prop} {o : Oper} {r : List Oper} {a : Act} {v : Value} (hw : Region.wanted o (yielded ops a.tmps) = true) (he : ∀ w,S w -> (execOp a.eval o).run P w = .ok (.value v) w) (h : hList P ops S K r (a.put o.dst v)) : hList P ops S K (o :: r) a :=
 ⟨v,.inl ⟨hw,fun w hS => by rw [he w hS];exact ⟨rfl,hS⟩⟩,h⟩
theorem no {K : Act -> Prop} {o : Oper} {r : List Oper} {a : Act} (hw : Region.wanted o (yielded ops a.tmps) = false) (h : hList P ops S K r (a.put o.dst undef)) : hList P ops S K (o :: r) a :=
 ⟨undef,.inr ⟨hw,rfl⟩,h⟩
theorem call {K : Act -> Prop} {o : Oper} {r : List Oper} {a : Act} {v : Value} {f : FuncId} {args : Array Value} (hw : Region.wanted o (yielded ops a.tmps) = true) (he : ∀ w,S w -> (execOp a.eval o).run P w = .ok (.enter f args) w)
 (hc : ∀ w,S w -> Calls P f args w fun e w' => e = .returned v /\ S w') (h : hList P ops S K r (a.put o.dst v)) : hList P ops S K (o :: r) a :=
 ⟨v,.inl ⟨hw,fun w hS => by rw [he w hS];exact hc w hS⟩,h⟩
end
end Go.Proofs.YthkbcjnbmciolaaGreatDoor.HeldZ
namespace Go.Proofs.YthkbcjnbmciolaaGreatDoor
open Go.RowKit Go.PlainAid G MGF IRow
set_option linter.unusedVariables false
def eqConf2 (a b c d e f g h : Int) : Bool:=decide (a = e /\ b = f /\ c = g /\ d = h)
theorem neq_conf2 (a b c d e f g h : Int) (W : World) : (binOp .neq 39 (.agg #[.int .i64 a,.int .i64 b,.int .i64 c,.int .i64 d]) (.agg #[.int .i64 e,.int .i64 f,.int .i64 g,.int .i64 h])).run Tryz.prog W = .ok (.bool (!eqConf2 a b c d e f g h)) W:=by
 unfold eqConf2
 by_cases h1 : a = e <;> by_cases h2 : b = f <;> by_cases h3 : c = g <;> by_cases h4 : d = h <;> simp [go_sem,h1,h2,h3,h4]
theorem eql_conf2 (a b c d e f g h : Int) (W : World) : (binOp .eql 39 (.agg #[.int .i64 a,.int .i64 b,.int .i64 c,.int .i64 d]) (.agg #[.int .i64 e,.int .i64 f,.int .i64 g,.int .i64 h])).run Tryz.prog W = .ok (.bool (eqConf2 a b c d e f g h)) W:=by
 unfold eqConf2
 by_cases h1 : a = e <;> by_cases h2 : b = f <;> by_cases h3 : c = g <;> by_cases h4 : d = h <;> simp [go_sem,h1,h2,h3,h4]
def eqTm (x y : Tm) : Bool:=decide (x.no = y.no /\ x.lk = y.lk)
def eqTmL (l k : List Tm) : Bool:=decide (l.length = k.length) && allTo' (fun i => eqTm (l.getD i tmD) (k.getD i tmD)) l.length
theorem neq_term2 (p0 q0 : Int) (p1 q1 : ByteArray) (W : World) : (binOp .neq 97 (.agg #[.int .i64 p0,.string p1]) (.agg #[.int .i64 q0,.string q1])).run Tryz.prog W = .ok (.bool (!decide (p0 = q0 /\ p1 = q1))) W:=by
 have t1 : (p1.toList = q1.toList) = (p1 = q1):=propext (toList_iff p1 q1)
 by_cases h0 : p0 = q0 <;> by_cases h1 : p1 = q1 <;> simp [go_sem,h0,h1,t1]
def eqIm (x y : Im) : Bool:=decide (x.nm = y.nm /\ x.tm = y.tm /\ x.bd = y.bd)
def eqImL (l k : List Im) : Bool:=decide (l.length = k.length) && allTo' (fun i => eqIm (l.getD i imD) (k.getD i imD)) l.length
theorem neq_item2 (p0 q0 : ByteArray) (p1 q1 : Int) (p2 q2 : ByteArray) (W : World) : (binOp .neq 62 (.agg #[.string p0,.int .i64 p1,.string p2]) (.agg #[.string q0,.int .i64 q1,.string q2])).run Tryz.prog W = .ok (.bool (!decide (p0 = q0 /\ p1 = q1 /\ p2 = q2))) W:=by
 have t0 : (p0.toList = q0.toList) = (p0 = q0):=propext (toList_iff p0 q0)
 have t2 : (p2.toList = q2.toList) = (p2 = q2):=propext (toList_iff p2 q2)
 by_cases h0 : p0 = q0 <;> by_cases h1 : p1 = q1 <;> by_cases h2 : p2 = q2 <;> simp [go_sem,h0,h1,h2,t0,t2]
theorem equalTermS_any (a b : Option Addr) (n m c d : Nat) (l k : List Tm) (w : World) (h : TmR w a n c l) (hk : TmR w b m d k) (hn : n <= 1048576) (hm : m <= 1048576) :
 Calls Tryz.prog 84 #[.slice a n c,.slice b m d] w fun e w' => e = .returned (.bool (eqTmL l k)) /\ Below w.heap.size w w':=by
 have HL:=qH h.len
 have HK:=qH hk.len
 by_cases hnm : n = m
 · subst hnm
   have hmx : Tryz.prog.follows .mixedOrders = true:=by kernel_rfl
   have HNO : Hid (∀ j,j < n -> eqTm (l.getD j tmD) (k.getD j tmD) = false -> eqTmL l k = false):=qH (fun j hj he => by unfold eqTmL;rw [allTo'_no (n:=l.length) (k:=j) (by rw [HL.out];exact hj) he,Bool.and_false])
   have HYES : Hid (allTo' (fun i => eqTm (l.getD i tmD) (k.getD i tmD)) n = true -> eqTmL l k = true):=qH (fun ha => by unfold eqTmL;rw [HL.out,HK.out,ha,decide_eq_true rfl];rfl)
   go_enter Tryz.func84,Tryz.ntmps84
   go_wp2_with fail
   go_loopw [13] (fun i wr => ∃ j : Nat,j <= n /\ i = .int .i64 j /\ Hid (allTo' (fun i => eqTm (l.getD i tmD) (k.getD i tmD)) j = true) /\ Hid (Below w.heap.size w wr)) (fun i _ => n - (intOf i).toNat)
   case atStart => exact ⟨0,Nat.zero_le _,rfl,qH rfl,qH (Below.refl _ _)⟩
   case round =>
    obtain ⟨j,hj,rfl,HA,HB⟩:=hrel
    by_cases hlt : j < n
    · obtain ⟨g,o,rfl,hg,a0,a1⟩:=TmR.at h hlt
      obtain ⟨g2,o2,rfl,hg2,b0,b1⟩:=TmR.at hk hlt
      have hin : 0 <= (j : Int) /\ (j : Int) < (n : Int):=by omega
      have HNJ:=qH (HNO.out j hlt)
      have HSU : Hid (eqTm (l.getD j tmD) (k.getD j tmD) = true -> allTo' (fun i => eqTm (l.getD i tmD) (k.getD i tmD)) (j + 1) = true):=qH (fun he => allTo'_succ HA.out he)
      have HEQ : Hid (eqTm (l.getD j tmD) (k.getD j tmD) = decide ((l.getD j tmD).no = (k.getD j tmD).no /\ (l.getD j tmD).lk = (k.getD j tmD).lk)):=qH rfl
      generalize (l.getD j tmD).no = p0 at *
      generalize (k.getD j tmD).no = q0 at *
      generalize (l.getD j tmD).lk = p1 at *
      generalize (k.getD j tmD).lk = q1 at *
      obtain ⟨z,hz⟩ : ∃ z,z = !decide (p0 = q0 /\ p1 = q1):=⟨_,rfl⟩
      have hne : ∀ W : World,(binOp .neq 97 (.agg #[.int .i64 p0,.string p1]) (.agg #[.int .i64 q0,.string q1])).run Tryz.prog W = .ok (.bool z) W:=fun W => by rw [hz];exact neq_term2 p0 q0 p1 q1 W
      have HZ:=qH hz
      have hwj : IntKind.i64.wrap ((j : Int) + 1) = (j : Int) + 1:=IntWalk.i64_in _ (by omega)
      clear hz
      go_upto_region 6 with fail
      have HS0:=qH (show Below w.heap.size w wr.drew /\ wr.drew.cell? ⟨g,o + j * 2,none⟩ = some (.int .i64 p0) /\ wr.drew.cell? ⟨g,o + j * 2 + 1,none⟩ = some (.string p1) /\ wr.drew.cell? ⟨g2,o2 + j * 2,none⟩ = some (.int .i64 q0) /\ wr.drew.cell? ⟨g2,o2 + j * 2 + 1,none⟩ = some (.string q1) from ⟨HB.out.drew,(HB.out.drew.cell (p:=⟨g,o + j * 2,none⟩) hg).trans a0,(HB.out.drew.cell (p:=⟨g,o + j * 2 + 1,none⟩) hg).trans a1,(HB.out.drew.cell (p:=⟨g2,o2 + j * 2,none⟩) hg2).trans b0,(HB.out.drew.cell (p:=⟨g2,o2 + j * 2 + 1,none⟩) hg2).trans b1⟩)
      clear a0 b0 a1 b1
      refine HeldZ.region hmx (fun u => Below w.heap.size w u /\ u.cell? ⟨g,o + j * 2,none⟩ = some (.int .i64 p0) /\ u.cell? ⟨g,o + j * 2 + 1,none⟩ = some (.string p1) /\ u.cell? ⟨g2,o2 + j * 2,none⟩ = some (.int .i64 q0) /\ u.cell? ⟨g2,o2 + j * 2 + 1,none⟩ = some (.string q1)) (by kernel_rfl) HS0.out ?_
      with_reducible refine HeldZ.value (v:=.slice (some ⟨g,o,none⟩) n c) rfl (fun u hu => by go_simp) ?_
      simp only [pS,List.set]
      with_reducible refine HeldZ.value (v:=.int .i64 (j : Int)) rfl (fun u hu => by go_simp) ?_
      simp only [pS,List.set]
      with_reducible refine HeldZ.value (v:=.pointer (some ⟨g,o + j * 2,none⟩)) rfl (fun u hu => by go_simp) ?_
      simp only [pS,List.set]
      with_reducible refine HeldZ.value (v:=.agg #[.int .i64 p0,.string p1]) rfl (fun u hu => by obtain ⟨_,a0,a1,b0,b1⟩:=hu;go_simp) ?_
      simp only [pS,List.set]
      with_reducible refine HeldZ.value (v:=.slice (some ⟨g2,o2,none⟩) n d) rfl (fun u hu => by go_simp) ?_
      simp only [pS,List.set]
      with_reducible refine HeldZ.value (v:=.int .i64 (j : Int)) rfl (fun u hu => by go_simp) ?_
      simp only [pS,List.set]
      with_reducible refine HeldZ.value (v:=.pointer (some ⟨g2,o2 + j * 2,none⟩)) rfl (fun u hu => by go_simp) ?_
      simp only [pS,List.set]
      with_reducible refine HeldZ.value (v:=.agg #[.int .i64 q0,.string q1]) rfl (fun u hu => by obtain ⟨_,a0,a1,b0,b1⟩:=hu;go_simp) ?_
      simp only [pS,List.set]
      with_reducible refine HeldZ.value (v:=.bool z) rfl (fun u hu => by go_simp) ?_
      simp only [pS,List.set]
      refine HeldZ.nil ?_
      intro u hu
      have HBU:=qH hu.1
      clear hu hne
      cases z with
      | false =>
       have HA2:=qH (HSU.out (by rw [HEQ.out];exact (Bool.not_eq_false' _).mp HZ.out.symm))
       go_wp2_with fail
       go_roundw
       case rel => exact ⟨j + 1,by omega,by go_num,HA2,HBU⟩
       case measure => simp [intOf];omega
      | true =>
       have HF:=qH (HNJ.out (by rw [HEQ.out];exact (Bool.not_eq_true' _).mp HZ.out.symm))
       go_wp2_with fail
       go_ret
       exact ⟨ret_bool HF.out.symm,HBU.out⟩
    · obtain rfl : j = n:=by omega
      have HF:=qH (HYES.out HA.out)
      go_wp2_with fail
      go_ret
      exact ⟨ret_bool HF.out.symm,HB.out⟩
 · have hb : ((n : Int) != (m : Int)) = true:=by simp;omega
   have HF : Hid (eqTmL l k = false):=qH (by unfold eqTmL;rw [HL.out,HK.out,decide_eq_false hnm,Bool.false_and])
   clear hnm
   go_enter Tryz.func84,Tryz.ntmps84
   go_wp2_with fail
   go_ret
   exact ⟨ret_bool HF.out.symm,Below.refl _ _⟩
theorem equalItemS_any (a b : Option Addr) (n m c d : Nat) (l k : List Im) (w : World) (h : ImR w a n c l) (hk : ImR w b m d k) (hn : n <= 1048576) (hm : m <= 1048576) :
 Calls Tryz.prog 85 #[.slice a n c,.slice b m d] w fun e w' => e = .returned (.bool (eqImL l k)) /\ Below w.heap.size w w':=by
 have HL:=qH h.len
 have HK:=qH hk.len
 by_cases hnm : n = m
 · subst hnm
   have hmx : Tryz.prog.follows .mixedOrders = true:=by kernel_rfl
   have HNO : Hid (∀ j,j < n -> eqIm (l.getD j imD) (k.getD j imD) = false -> eqImL l k = false):=qH (fun j hj he => by unfold eqImL;rw [allTo'_no (n:=l.length) (k:=j) (by rw [HL.out];exact hj) he,Bool.and_false])
   have HYES : Hid (allTo' (fun i => eqIm (l.getD i imD) (k.getD i imD)) n = true -> eqImL l k = true):=qH (fun ha => by unfold eqImL;rw [HL.out,HK.out,ha,decide_eq_true rfl];rfl)
   go_enter Tryz.func85,Tryz.ntmps85
   go_wp2_with fail
   go_loopw [13] (fun i wr => ∃ j : Nat,j <= n /\ i = .int .i64 j /\ Hid (allTo' (fun i => eqIm (l.getD i imD) (k.getD i imD)) j = true) /\ Hid (Below w.heap.size w wr)) (fun i _ => n - (intOf i).toNat)
   case atStart => exact ⟨0,Nat.zero_le _,rfl,qH rfl,qH (Below.refl _ _)⟩
   case round =>
    obtain ⟨j,hj,rfl,HA,HB⟩:=hrel
    by_cases hlt : j < n
    · obtain ⟨g,o,rfl,hg,a0,a1,a2⟩:=ImR.at h hlt
      obtain ⟨g2,o2,rfl,hg2,b0,b1,b2⟩:=ImR.at hk hlt
      have hin : 0 <= (j : Int) /\ (j : Int) < (n : Int):=by omega
      have HNJ:=qH (HNO.out j hlt)
      have HSU : Hid (eqIm (l.getD j imD) (k.getD j imD) = true -> allTo' (fun i => eqIm (l.getD i imD) (k.getD i imD)) (j + 1) = true):=qH (fun he => allTo'_succ HA.out he)
      have HEQ : Hid (eqIm (l.getD j imD) (k.getD j imD) = decide ((l.getD j imD).nm = (k.getD j imD).nm /\ (l.getD j imD).tm = (k.getD j imD).tm /\ (l.getD j imD).bd = (k.getD j imD).bd)):=qH rfl
      generalize (l.getD j imD).nm = p0 at *
      generalize (k.getD j imD).nm = q0 at *
      generalize (l.getD j imD).tm = p1 at *
      generalize (k.getD j imD).tm = q1 at *
      generalize (l.getD j imD).bd = p2 at *
      generalize (k.getD j imD).bd = q2 at *
      obtain ⟨z,hz⟩ : ∃ z,z = !decide (p0 = q0 /\ p1 = q1 /\ p2 = q2):=⟨_,rfl⟩
      have hne : ∀ W : World,(binOp .neq 62 (.agg #[.string p0,.int .i64 p1,.string p2]) (.agg #[.string q0,.int .i64 q1,.string q2])).run Tryz.prog W = .ok (.bool z) W:=fun W => by rw [hz];exact neq_item2 p0 q0 p1 q1 p2 q2 W
      have HZ:=qH hz
      have hwj : IntKind.i64.wrap ((j : Int) + 1) = (j : Int) + 1:=IntWalk.i64_in _ (by omega)
      clear hz
      go_upto_region 6 with fail
      have HS0:=qH (show Below w.heap.size w wr.drew /\ wr.drew.cell? ⟨g,o + j * 3,none⟩ = some (.string p0) /\ wr.drew.cell? ⟨g,o + j * 3 + 1,none⟩ = some (.int .i64 p1) /\ wr.drew.cell? ⟨g,o + j * 3 + 2,none⟩ = some (.string p2) /\ wr.drew.cell? ⟨g2,o2 + j * 3,none⟩ = some (.string q0) /\ wr.drew.cell? ⟨g2,o2 + j * 3 + 1,none⟩ = some (.int .i64 q1) /\ wr.drew.cell? ⟨g2,o2 + j * 3 + 2,none⟩ = some (.string q2) from ⟨HB.out.drew,(HB.out.drew.cell (p:=⟨g,o + j * 3,none⟩) hg).trans a0,(HB.out.drew.cell (p:=⟨g,o + j * 3 + 1,none⟩) hg).trans a1,(HB.out.drew.cell (p:=⟨g,o + j * 3 + 2,none⟩) hg).trans a2,(HB.out.drew.cell (p:=⟨g2,o2 + j * 3,none⟩) hg2).trans b0,(HB.out.drew.cell (p:=⟨g2,o2 + j * 3 + 1,none⟩) hg2).trans b1,(HB.out.drew.cell (p:=⟨g2,o2 + j * 3 + 2,none⟩) hg2).trans b2⟩)
      clear a0 b0 a1 b1 a2 b2
      refine HeldZ.region hmx (fun u => Below w.heap.size w u /\ u.cell? ⟨g,o + j * 3,none⟩ = some (.string p0) /\ u.cell? ⟨g,o + j * 3 + 1,none⟩ = some (.int .i64 p1) /\ u.cell? ⟨g,o + j * 3 + 2,none⟩ = some (.string p2) /\ u.cell? ⟨g2,o2 + j * 3,none⟩ = some (.string q0) /\ u.cell? ⟨g2,o2 + j * 3 + 1,none⟩ = some (.int .i64 q1) /\ u.cell? ⟨g2,o2 + j * 3 + 2,none⟩ = some (.string q2)) (by kernel_rfl) HS0.out ?_
      with_reducible refine HeldZ.value (v:=.slice (some ⟨g,o,none⟩) n c) rfl (fun u hu => by go_simp) ?_
      simp only [pS,List.set]
      with_reducible refine HeldZ.value (v:=.int .i64 (j : Int)) rfl (fun u hu => by go_simp) ?_
      simp only [pS,List.set]
      with_reducible refine HeldZ.value (v:=.pointer (some ⟨g,o + j * 3,none⟩)) rfl (fun u hu => by go_simp) ?_
      simp only [pS,List.set]
      with_reducible refine HeldZ.value (v:=.agg #[.string p0,.int .i64 p1,.string p2]) rfl (fun u hu => by obtain ⟨_,a0,a1,a2,b0,b1,b2⟩:=hu;go_simp) ?_
      simp only [pS,List.set]
      with_reducible refine HeldZ.value (v:=.slice (some ⟨g2,o2,none⟩) n d) rfl (fun u hu => by go_simp) ?_
      simp only [pS,List.set]
      with_reducible refine HeldZ.value (v:=.int .i64 (j : Int)) rfl (fun u hu => by go_simp) ?_
      simp only [pS,List.set]
      with_reducible refine HeldZ.value (v:=.pointer (some ⟨g2,o2 + j * 3,none⟩)) rfl (fun u hu => by go_simp) ?_
      simp only [pS,List.set]
      with_reducible refine HeldZ.value (v:=.agg #[.string q0,.int .i64 q1,.string q2]) rfl (fun u hu => by obtain ⟨_,a0,a1,a2,b0,b1,b2⟩:=hu;go_simp) ?_
      simp only [pS,List.set]
      with_reducible refine HeldZ.value (v:=.bool z) rfl (fun u hu => by go_simp) ?_
      simp only [pS,List.set]
      refine HeldZ.nil ?_
      intro u hu
      have HBU:=qH hu.1
      clear hu hne
      cases z with
      | false =>
       have HA2:=qH (HSU.out (by rw [HEQ.out];exact (Bool.not_eq_false' _).mp HZ.out.symm))
       go_wp2_with fail
       go_roundw
       case rel => exact ⟨j + 1,by omega,by go_num,HA2,HBU⟩
       case measure => simp [intOf];omega
      | true =>
       have HF:=qH (HNJ.out (by rw [HEQ.out];exact (Bool.not_eq_true' _).mp HZ.out.symm))
       go_wp2_with fail
       go_ret
       exact ⟨ret_bool HF.out.symm,HBU.out⟩
    · obtain rfl : j = n:=by omega
      have HF:=qH (HYES.out HA.out)
      go_wp2_with fail
      go_ret
      exact ⟨ret_bool HF.out.symm,HB.out⟩
 · have hb : ((n : Int) != (m : Int)) = true:=by simp;omega
   have HF : Hid (eqImL l k = false):=qH (by unfold eqImL;rw [HL.out,HK.out,decide_eq_false hnm,Bool.false_and])
   clear hnm
   go_enter Tryz.func85,Tryz.ntmps85
   go_wp2_with fail
   go_ret
   exact ⟨ret_bool HF.out.symm,Below.refl _ _⟩
end Go.Proofs.YthkbcjnbmciolaaGreatDoor
