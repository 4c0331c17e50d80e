/- Used by the law. -/
import Derived.Maps.OwnSet
import Derived.Sort.KeysCollected
import Derived.Sort.Walk0
import Derived.Lib.SliceRun
import Derived.Shelf.SlIter.Nil
import Derived.Shelf.SortM.Plain
import Derived.Shelf.SortM.SortNone
import Derived.Ground.GgzProg
import Derived.Ground.SlgmProg
import Derived.Test.YthkbcjnbmciolaaGreatDoorProg
import Derived.Test.YthkbcjnbmciolaaGreatDoorQV21
set_option maxRecDepth 100000
set_option maxHeartbeats 16000000
namespace Go.Proofs.YthkbcjnbmciolaaGreatDoor
open Go.RowKit Go.PlainAid G IRow
set_option linter.unusedVariables false
def imDat (x : Im) : DataW Unit:=.agg [.lit (.string x.nm.data.toList),.lit (.int .i64 x.tm),.lit (.string x.bd.data.toList)]
def imKey (nm : ByteArray) : Lit:=.string nm.data.toList
def imR (v : Value) : Option (DataW Unit × List MemPlace) :=
 match v with
 | .agg cs => match cs.toList with
  | [.string nm,.int .i64 tm,.string bd] => some (imDat ⟨nm,tm,bd⟩,[])
  | _ => none
 | _ => none
theorem imDat_inj {x y : Im} (h : imDat x = imDat y) : x = y:=by
 obtain ⟨a,b,c⟩:=x
 obtain ⟨a',b',c'⟩:=y
 simp only [imDat,DataW.agg.injEq,List.cons.injEq,DataW.lit.injEq,Lit.string.injEq,Lit.int.injEq,true_and,and_true] at h
 obtain ⟨h1,h2,h3⟩:=h
 rw [ba_inj h1,h2,ba_inj h3]
theorem imR_inv {v : Value} {x : Im} {ps : List MemPlace} (h : imR v = some (imDat x,ps)) : v = .agg #[.string x.nm,.int .i64 x.tm,.string x.bd]:=by
 unfold imR at h
 split at h
 · split at h
   · rename_i e
     simp only [Option.some.injEq,Prod.mk.injEq] at h
     have:=imDat_inj h.1
     rw [<- this]
     exact congrArg Value.agg (Array.toList_inj.1 e)
   · cases h
 · cases h
def RiseI (is : List Im) : Prop:=is.Pairwise (fun x y => ltS x.nm y.nm = true)
def entI (x : Im) : Lit × DataW Unit:=(imKey x.nm,imDat x)
def mapI (is : List Im) : DataW Unit:=.map (is.map entI)
theorem before_ltS (a b : ByteArray) : (imKey a).before (imKey b) = ltS a b:=(ltS_bytes a b).symm
theorem sameKey_imKey (a b : ByteArray) : (imKey a).sameKey (imKey b) = decide (a = b):=by
 show (a.data.toList == b.data.toList) = _
 by_cases h : a = b
 · subst h;simp
 · rw [decide_eq_false h,beq_eq_false_iff_ne]
   exact fun e => h (ba_inj e)
theorem rise_of {n : Nat} {is : List Im} (h : allTo' (iAt n is) is.length = true) : RiseI is:=by
 rw [RiseI,List.pairwise_iff_getElem]
 intro i j hi hj hij
 induction j with
 | zero => omega
 | succ j ih =>
  have h1:=allTo'_iff.1 h (j + 1) hj
  have h2 : ltS (is[j]'(by omega)).nm is[j + 1].nm = true:=by
   unfold iAt at h1
   rw [Bool.and_eq_true] at h1
   have h3:=h1.2
   rw [decide_eq_false (by omega : ¬ (j + 1 = 0)),Bool.false_or] at h3
   have hj2 : j < is.length:=by omega
   simpa [List.getD,List.getElem?_eq_getElem hj,List.getElem?_eq_getElem hj2] using h3
  rcases Nat.lt_or_ge i j with h4 | h4
  · exact ltS_tr (ih (by omega) h4) h2
  · obtain rfl : i = j:=by omega
    exact h2
def genI (xs : List Im) (nm : ByteArray) : List Im -> List Im
 | [] => xs
 | y :: r => if ltS y.nm nm = true then y :: genI xs nm r else if y.nm = nm then xs ++ r else xs ++ y :: r
theorem atI_cons (y : Im) (r : List Im) (nm : ByteArray) : atI (y :: r) nm = if ltS y.nm nm = true then atI r nm + 1 else 0:=by
 unfold atI
 rw [List.findIdx_cons]
 cases ltS y.nm nm <;> rfl
theorem hasI_cons (y : Im) (r : List Im) (nm : ByteArray) : hasI (y :: r) nm = if ltS y.nm nm = true then hasI r nm else decide (y.nm = nm):=by
 unfold hasI
 rw [atI_cons]
 by_cases h : ltS y.nm nm = true
 · rw [if_pos h,if_pos h]
   simp
 · rw [if_neg h,if_neg h]
   simp
theorem items_gen (d : Dd) : ∀ is : List Im,itemsL is d = genI (if d.kd = 3 then [imOf d] else []) d.nm is
 | [] => by simp [itemsL,genI]
 | y :: r => by
  have ih:=items_gen d r
  unfold itemsL at ih ⊢
  rw [atI_cons,hasI_cons]
  unfold genI
  by_cases h : ltS y.nm d.nm = true
  · rw [if_pos h,if_pos h,if_pos h,List.take_succ_cons,List.cons_append,<- ih]
    congr 3
    split <;> simp
  · rw [if_neg h,if_neg h,if_neg h]
    by_cases h2 : y.nm = d.nm
    · rw [decide_eq_true h2,if_pos h2];simp
    · rw [decide_eq_false h2,if_neg h2];simp
theorem keep_far {nm : ByteArray} {r : List Im} (h : ∀ z ∈ r,z.nm ≠ nm) : (r.map entI).filter (fun p => !p.1.sameKey (imKey nm)) = r.map entI:=by
 refine List.filter_eq_self.2 fun p hp => ?_
 obtain ⟨z,hz,rfl⟩:=List.mem_map.1 hp
 show (!(imKey z.nm).sameKey (imKey nm)) = true
 rw [sameKey_imKey,decide_eq_false (h z hz)];rfl
theorem put_list {x : Im} : ∀ {is : List Im},RiseI is -> (genI [x] x.nm is).map entI = DataW.insert (imKey x.nm,imDat x) ((is.map entI).filter fun p => !p.1.sameKey (imKey x.nm))
 | [],_ => rfl
 | y :: r,h => by
  obtain ⟨h0,hr⟩:=List.pairwise_cons.1 h
  unfold genI
  rw [List.map_cons,List.filter_cons]
  show _ = DataW.insert _ (if (!(imKey y.nm).sameKey (imKey x.nm)) = true then _ else _)
  rw [sameKey_imKey]
  by_cases h1 : ltS y.nm x.nm = true
  · rw [if_pos h1,decide_eq_false (ltS_ne h1),if_pos (show (!false) = true from rfl),List.map_cons]
    unfold DataW.insert
    rw [if_neg (by show ¬ (imKey x.nm).before (imKey y.nm) = true;rw [before_ltS,ltS_asym h1];decide)]
    rw [put_list hr]
  · rw [if_neg h1]
    by_cases h2 : y.nm = x.nm
    · rw [if_pos h2,decide_eq_true h2,if_neg (show ¬ (!true) = true by decide),keep_far (fun z hz => (h2 ▸ ltS_ne (h0 z hz)).symm)]
      cases r with
      | nil => rfl
      | cons z r =>
       show _ = DataW.insert _ (entI z :: r.map entI)
       unfold DataW.insert
       rw [if_pos (by show (imKey x.nm).before (imKey z.nm) = true;rw [before_ltS,<- h2];exact h0 z (by simp))]
       rfl
    · have h3 : ltS x.nm y.nm = true:=(ltS_tot h2).resolve_left h1
      rw [if_neg h2,decide_eq_false h2,if_pos (show (!false) = true from rfl),keep_far (fun z hz => (ltS_ne (ltS_tr h3 (h0 z hz))).symm)]
      unfold DataW.insert
      rw [if_pos (by show (imKey x.nm).before (imKey y.nm) = true;rw [before_ltS];exact h3)]
      rfl
theorem mapI_put {x : Im} {is : List Im} (h : RiseI is) : mapI (genI [x] x.nm is) = (mapI is).put (imKey x.nm) (imDat x):=by
 show DataW.map _ = DataW.map _
 rw [put_list h]
theorem del_list {nm : ByteArray} : ∀ {is : List Im},RiseI is -> (genI [] nm is).map entI = (is.map entI).filter fun p => !p.1.sameKey (imKey nm)
 | [],_ => rfl
 | y :: r,h => by
  obtain ⟨h0,hr⟩:=List.pairwise_cons.1 h
  unfold genI
  rw [List.map_cons,List.filter_cons]
  show _ = (if (!(imKey y.nm).sameKey (imKey nm)) = true then _ else _)
  rw [sameKey_imKey]
  by_cases h1 : ltS y.nm nm = true
  · rw [if_pos h1,decide_eq_false (ltS_ne h1),if_pos (show (!false) = true from rfl),List.map_cons,del_list hr]
  · rw [if_neg h1]
    by_cases h2 : y.nm = nm
    · rw [if_pos h2,decide_eq_true h2,if_neg (show ¬ (!true) = true by decide),keep_far (fun z hz => (h2 ▸ ltS_ne (h0 z hz)).symm)];rfl
    · have h3 : ltS nm y.nm = true:=(ltS_tot h2).resolve_left h1
      rw [if_neg h2,decide_eq_false h2,if_pos (show (!false) = true from rfl),keep_far (fun z hz => (ltS_ne (ltS_tr h3 (h0 z hz))).symm)];rfl
theorem mapI_del {nm : ByteArray} {is : List Im} (h : RiseI is) : mapI (genI [] nm is) = (mapI is).del (imKey nm):=by
 show DataW.map _ = DataW.map _
 rw [del_list h]
theorem mem_gen {xs : List Im} {nm : ByteArray} {z : Im} : ∀ {is : List Im},z ∈ genI xs nm is -> z ∈ xs ∨ z ∈ is
 | [],h => .inl h
 | y :: r,h => by
  unfold genI at h
  split at h
  · rcases List.mem_cons.1 h with rfl | h
    · exact .inr (by simp)
    · exact (mem_gen h).imp id (fun h => by simp [h])
  · split at h
    · rcases List.mem_append.1 h with h | h
      · exact .inl h
      · exact .inr (by simp [h])
    · rcases List.mem_append.1 h with h | h
      · exact .inl h
      · exact .inr h
theorem gen_rise {xs : List Im} {nm : ByteArray} (hx : xs = [] ∨ ∃ x : Im,xs = [x] /\ x.nm = nm) : ∀ {is : List Im},RiseI is -> RiseI (genI xs nm is)
 | [],_ => by
  rcases hx with rfl | ⟨x,rfl,_⟩
  · exact List.Pairwise.nil
  · exact List.pairwise_singleton _ _
 | y :: r,h => by
  have hcons:=h
  obtain ⟨h0,hr⟩:=List.pairwise_cons.1 h
  unfold genI
  by_cases h1 : ltS y.nm nm = true
  · rw [if_pos h1]
    refine List.pairwise_cons.2 ⟨fun z hz => ?_,gen_rise hx hr⟩
    rcases mem_gen hz with hz | hz
    · rcases hx with rfl | ⟨x,rfl,e⟩
      · cases hz
      · obtain rfl:=List.mem_singleton.1 hz
        rw [e];exact h1
    · exact h0 z hz
  · rw [if_neg h1]
    by_cases h2 : y.nm = nm
    · rw [if_pos h2]
      rcases hx with rfl | ⟨x,rfl,e⟩
      · exact hr
      · exact List.pairwise_cons.2 ⟨fun z hz => by rw [e,<- h2];exact h0 z hz,hr⟩
    · have h3 : ltS nm y.nm = true:=(ltS_tot h2).resolve_left h1
      rw [if_neg h2]
      rcases hx with rfl | ⟨x,rfl,e⟩
      · exact hcons
      · refine List.pairwise_cons.2 ⟨fun z hz => ?_,hcons⟩
        rw [e]
        rcases List.mem_cons.1 hz with rfl | hz
        · exact h3
        · exact ltS_tr h3 (h0 z hz)
theorem has_mapI (nm : ByteArray) : ∀ {is : List Im},RiseI is -> Maps.has (mapI is) (imKey nm) = hasI is nm
 | [],_ => rfl
 | y :: r,h => by
  obtain ⟨h0,hr⟩:=List.pairwise_cons.1 h
  have ih : (r.map entI).any (fun p => p.1.sameKey (imKey nm)) = hasI r nm:=has_mapI nm hr
  rw [hasI_cons]
  show ((y :: r).map entI).any (fun p => p.1.sameKey (imKey nm)) = _
  rw [List.map_cons,List.any_cons,ih]
  show ((imKey y.nm).sameKey (imKey nm) || _) = _
  rw [sameKey_imKey]
  by_cases h1 : ltS y.nm nm = true
  · rw [if_pos h1,decide_eq_false (ltS_ne h1),Bool.false_or]
  · rw [if_neg h1]
    by_cases h2 : y.nm = nm
    · rw [decide_eq_true h2,Bool.true_or]
    · have h3 : ltS nm y.nm = true:=(ltS_tot h2).resolve_left h1
      rw [decide_eq_false h2,Bool.false_or,<- ih,List.any_eq_false]
      intro p hp
      obtain ⟨z,hz,rfl⟩:=List.mem_map.1 hp
      show ¬ (imKey z.nm).sameKey (imKey nm) = true
      rw [sameKey_imKey,decide_eq_false (ltS_ne (ltS_tr h3 (h0 z hz))).symm]
      decide
theorem size_mapI (is : List Im) : Maps.size (mapI is) = is.length:=by simp [Maps.size,mapI]
theorem at_mapI {is : List Im} (h : RiseI is) {x : Im} (hx : x ∈ is) (z : DataW Unit) : (mapI is).atKey (imKey x.nm) z = imDat x:=by
 have hp : entI x ∈ is.map entI:=List.mem_map.2 ⟨x,hx,rfl⟩
 refine WideAt.atKey_mem (k:=imKey x.nm) (d:=imDat x) z ?_ ?_ hp
 · trivial
 · exact List.pairwise_map.2 (h.imp (fun {a b} hab e => by
    have e2 : a.nm.data.toList = b.nm.data.toList:=by simpa [entI,imKey] using e
    exact ltS_ne hab (ba_inj e2)))
theorem keys_mapI (is : List Im) : strKeys (mapI is) = is.map (fun y => y.nm.data.toList):=by
 show (is.map entI).map (fun p => strOf p.1) = _
 rw [List.map_map]
 rfl
theorem lt_le {a b : ByteArray} (h : ltS a b = true) : a.data.toList <= b.data.toList:=by
 have h2 : Op.bytesLess a.data.toList b.data.toList = true:=by rw [<- Lib.toList_data,<- Lib.toList_data];exact h
 rw [bytesLess_eq,decide_eq_true_eq] at h2
 exact List.le_of_lt h2
theorem sorted_mapI {is : List Im} (h : RiseI is) {ss : List (List UInt8)} (hp : ss.Perm (strKeys (mapI is))) : ss.mergeSort leB = is.map (fun y => y.nm.data.toList):=by
 have tr : ∀ a b c : List UInt8,leB a b = true -> leB b c = true -> leB a c = true:=fun a b c h1 h2 => by simp only [leB,decide_eq_true_eq] at *;exact List.le_trans h1 h2
 have to : ∀ a b : List UInt8,(leB a b || leB b a) = true:=fun a b => by simp only [leB,Bool.or_eq_true,decide_eq_true_eq];exact List.le_total a b
 refine List.Perm.eq_of_pairwise (le:=fun a b => leB a b = true) (fun a b _ _ h1 h2 => ?_) (List.pairwise_mergeSort tr to ss) (List.pairwise_map.2 (h.imp fun {a b} hab => by simp only [leB,decide_eq_true_eq];exact lt_le hab)) ((List.mergeSort_perm ss leB).trans (by rw [<- keys_mapI];exact hp))
 simp only [leB,decide_eq_true_eq] at h1 h2
 exact List.le_antisymm h1 h2
end Go.Proofs.YthkbcjnbmciolaaGreatDoor
namespace Go.Proofs.YthkbcjnbmciolaaGreatDoor
open Go.RowKit Go.PlainAid G IRow
open Go.Maps (Keyed string_keyed)
open Go.WideMaps (keyOf_string_mk)
set_option linter.unusedVariables false
theorem nilTerm (w : World) (a : Option Addr) (n c n' c' : Nat) : (binOp .eql 40 (.slice a n c) (.slice none n' c')).run Tryz.prog w = .ok (.bool a.isNone) w:=Lib.run_eql_slice_nil w _ _ a n c n' c' Tryz.underlying40
theorem clone_any (a : Option Addr) (n cap : Nat) (ts : List Tm) (w : World) (h : TmR w a n cap ts) (hn : n <= 1048576) :
 Calls Tryz.prog 153 #[.slice a n cap] w fun e w' => ∃ v,e = .returned v /\ w'.ownsRow w.heap.size 97 tmE.k v n (tmE.flat ts) /\ Below w.heap.size w w':=by
 obtain ⟨i1,hi1,hz1,hs1,hy1⟩:=info_parts infoTerm
 have hnil:=nilTerm
 cases a with
 | none =>
  have hc:=h.nil rfl
  have hm0 : n = 0:=by have:=h.le;omega
  subst hc hm0
  have hq : ts = []:=List.eq_nil_of_length_eq_zero h.len
  subst hq
  go_enter Tryz.func153,Tryz.ntmps153
  go_wp2_with fail
  go_ret
  exact ⟨_,rfl,World.ownsRow_nil _ _ _ _,Below.refl _ _⟩
 | some ad =>
  have HR : Hid (TmR (w.alloc (.cells #[] 97)) (some ad) n cap ts):=qH (SR.below h ((Below.refl _ _).alloc (Nat.le_refl _) _))
  clear h
  have HO:=qH (own_made0 tmE w 97 (Nat.le_refl _))
  have HB:=qH ((Below.refl w.heap.size w).alloc (Nat.le_refl _) (.cells #[] 97))
  go_enter Tryz.func153,Tryz.ntmps153
  go_wp2_with (at_builtin;refine append_wl tmE tmD rfl _ _ 40 rfl 97 i1 _ 24 Tryz.underlying40 hi1 hz1 hs1 hy1 rfl (by decide) (by decide) w.heap.size _ 0 [] rfl HO.out _ n cap ts rfl HR.out HB.out.size (by omega) (by omega) ?_;intro v' w' ho hg;have HO1:=qH ho;have HB1:=qH (HB.out.grown hg HB.out.size (fun q hq => (HO.out.lt q hq).1));clear ho hg)
  go_ret
  exact ⟨_,rfl,by have:=HO1.out;rwa [Nat.zero_add,List.nil_append] at this,HB1.out⟩
structure Dr (w : World) (base B M : Nat) (v : Value) (b : Bk) : Prop where
 box : BoxC w B [.int .i64 b.c0,.int .i64 b.c1,.int .i64 b.c2,.int .i64 b.c3,v,.map (some M)]
 row : w.ownsRow base 97 tmE.k v b.ts.length (tmE.flat b.ts)
 far : ∀ q,v.ownBlock = some q -> q ≠ B /\ q ≠ M
 hB : base <= B
 hM : base <= M
 ne : M ≠ B
 map : w.ownsMap Tryz.prog 9 imR M b.is.length (mapI b.is)
 rise : RiseI b.is
theorem keyS : Keyed Tryz.prog 9:=string_keyed Tryz.underlying9
theorem imKey_of {s : ByteArray} (hs : s.size <= maxLen) : keyOf Tryz.prog 9 (.string s) = some (imKey s):=keyOf_string_mk Tryz.underlying9 hs
theorem zeroItem (w : World) : (zeroValue 62).run Tryz.prog w = .ok (.agg #[.string ⟨#[]⟩,.int .i64 0,.string ⟨#[]⟩]) w:=by kernel_rfl
theorem map_below {H : Type} {P : Program} {k : TypeId} {R : Value -> Option (DataW H × List MemPlace)} {w w' : World} {b n : Nat} {D : DataW H} (h : w.ownsMap P k R b n D) (hb : Below w.heap.size w w') : w'.ownsMap P k R b n D:=by
 obtain ⟨es,clock,h1,F,hs,hD⟩:=h
 have hlt : b < w.heap.size:=by
  rcases Nat.lt_or_ge b w.heap.size with h2 | h2
  · exact h2
  · rw [Array.getElem?_eq_none h2] at h1;cases h1
 exact ⟨es,clock,(hb.block b hlt).trans h1,F,hs,hD⟩
theorem map_tight {H : Type} {P : Program} {k : TypeId} {R : Value -> Option (DataW H × List MemPlace)} {w : World} {b n : Nat} {D : DataW H} (h : w.ownsMap P k R b n D) : w.ownsMap P k R b (Maps.size D) D:=by
 obtain ⟨es,clock,h1,F,hs,rfl⟩:=h
 exact ⟨es,clock,h1,F,by simp [Maps.size,Go.length_sorted],rfl⟩
theorem Dr.below {w w' : World} {base B M : Nat} {v : Value} {b : Bk} (h : Dr w base B M v b) (hb : Below w.heap.size w w') : Dr w' base B M v b :=
 ⟨h.box.below hb,own_below h.row hb,h.far,h.hB,h.hM,h.ne,map_below h.map hb,h.rise⟩
theorem gen_last (x : Im) : ∀ {l : List Im},RiseI (l ++ [x]) -> genI [x] x.nm l = l ++ [x]
 | [],_ => rfl
 | y :: r,h => by
  obtain ⟨h0,hr⟩:=List.pairwise_cons.1 (show RiseI (y :: (r ++ [x])) from h)
  unfold genI
  rw [if_pos (h0 x (by simp)),gen_last x hr]
  rfl
theorem draftOf_any (b : Bk) (a1 a2 : Option Addr) (n1 n2 a3 a4 : Nat) (w : World) (h : BkR w a1 n1 a3 a2 n2 a4 b.ts b.is) (hn1 : n1 <= 5) (hn2 : n2 <= 8) (hr : RiseI b.is) (hs2 : ∀ t,t < n2 -> (b.is.getD t imD).nm.size <= maxLen) :
 Calls Tryz.prog 131 #[.agg #[.int .i64 b.c0,.int .i64 b.c1,.int .i64 b.c2,.int .i64 b.c3,.slice a1 n1 a3,.slice a2 n2 a4]] w fun e w' => ∃ B M v,e = .returned (.pointer (some ⟨B,0,none⟩)) /\ Dr w' w.heap.size B M v b /\ Below w.heap.size w w':=by
 obtain ⟨c0,c1,c2,c3,ts,is⟩:=b
 dsimp only at h hr hs2 ⊢
 have hl1 : ts.length = n1:=h.t.len
 have hl2 : is.length = n2:=h.i.len
 have HS2:=qH hs2
 have HR:=qH h
 have HRI:=qH hr
 clear hs2 h hr
 have hmm:=@run_makeMap Tryz.prog
 go_enter Tryz.func131,Tryz.ntmps131
 go_wp2_with fail
 have HM0 : Hid (((w.alloc (.cells #[.int .i64 c0,.int .i64 c1,.int .i64 c2,.int .i64 c3,.slice a1 n1 a3,.slice a2 n2 a4] 43)).alloc (.map #[] 0)).ownsMap Tryz.prog 9 imR (w.heap.size + 1) 0 (mapI (is.take 0))):=qH (by have:=World.ownsMap_made (w.alloc (.cells #[.int .i64 c0,.int .i64 c1,.int .i64 c2,.int .i64 c3,.slice a1 n1 a3,.slice a2 n2 a4] 43)) Tryz.prog 9 imR;rwa [World.size_alloc] at this)
 have HB0 : Hid (Below w.heap.size w ((w.alloc (.cells #[.int .i64 c0,.int .i64 c1,.int .i64 c2,.int .i64 c3,.slice a1 n1 a3,.slice a2 n2 a4] 43)).alloc (.map #[] 0))):=qH (((Below.refl _ _).alloc (Nat.le_refl _) _).alloc (by simp) _)
 have HA0 : Hid (BoxC ((w.alloc (.cells #[.int .i64 c0,.int .i64 c1,.int .i64 c2,.int .i64 c3,.slice a1 n1 a3,.slice a2 n2 a4] 43)).alloc (.map #[] 0)) w.heap.size [.int .i64 c0,.int .i64 c1,.int .i64 c2,.int .i64 c3,.slice a1 n1 a3,.slice a2 n2 a4]):=qH ((BoxC.made _ _ _).alloc _)
 go_loopw [10] (fun i wr => ∃ k : Nat,k <= n2 /\ i = .int .i64 k /\ Hid (wr.ownsMap Tryz.prog 9 imR (w.heap.size + 1) k (mapI (is.take k))) /\ Hid (Below w.heap.size w wr) /\ Hid (BoxC wr w.heap.size [.int .i64 c0,.int .i64 c1,.int .i64 c2,.int .i64 c3,.slice a1 n1 a3,.slice a2 n2 a4])) (fun i _ => n2 - (intOf i).toNat)
 case atStart => exact ⟨0,Nat.zero_le _,rfl,HM0,HB0,HA0⟩
 case round =>
  obtain ⟨k,hk,rfl,HM,HB,HA⟩:=hrel
  clear HM0 HB0 HA0
  by_cases hlt : k < n2
  · obtain ⟨g,o,rfl,hg,t0,t1,t2⟩:=ImR.at (SR.below HR.out.i HB.out) hlt
    have hin : 0 <= (k : Int) /\ (k : Int) < (n2 : Int):=by omega
    have hsz:=HS2.out k hlt
    have HN : Hid (mapI (is.take (k + 1)) = (mapI (is.take k)).put (imKey (is.getD k imD).nm) (imDat (is.getD k imD))):=qH (by
     have e1 : is.take (k + 1) = is.take k ++ [is.getD k imD]:=by
      rw [show is.getD k imD = is[k]'(by omega) by simp [List.getD,List.getElem?_eq_getElem (show k < is.length by omega)]]
      exact (List.take_append_getElem (by omega)).symm
     have e2 : RiseI (is.take (k + 1)):=List.Pairwise.sublist (List.take_sublist _ _) HRI.out
     rw [e1] at e2
     rw [e1,<- gen_last _ e2]
     exact mapI_put (List.Pairwise.sublist (List.take_sublist _ _) HRI.out))
    have HIM : Hid (is.getD k imD = ⟨(is.getD k imD).nm,(is.getD k imD).tm,(is.getD k imD).bd⟩):=qH rfl
    generalize is.getD k imD = im at *
    obtain ⟨nm,tm,bd⟩:=im
    dsimp only at t0 t1 t2 hsz HN
    clear HIM
    have hown:=World.ownsMap.alloc HM.out (.cells #[.string nm,.int .i64 tm,.string bd] 62)
    go_wp2_with (at_mapUpdate;refine wpList_mapUpdate_own _ rfl _ _ _ 207 rfl 9 62 keyS Tryz.underlying207 imR (w.heap.size + 1) k _ rfl hown (by unfold maxLen;omega) _ _ (imKey nm) rfl rfl (imKey_of hsz) (imDat ⟨nm,tm,bd⟩) [] rfl ?_;intro w5 hown5 hg5)
    have HB5 : Hid (Below w.heap.size w w5):=qH ((HB.out.alloc HB.out.size _).grown hg5 (HB.out.alloc HB.out.size _).size (fun q hq => by simp at hq;omega))
    have HA5 : Hid (BoxC w5 w.heap.size [.int .i64 c0,.int .i64 c1,.int .i64 c2,.int .i64 c3,.slice a1 n1 a3,.slice (some ⟨g,o,none⟩) n2 a4]):=qH ((HA.out.alloc _).grown hg5 (by simp))
    rw [<- HN.out] at hown5
    have HM5:=qH hown5
    clear hown5 hg5 hown t0 t1 t2
    go_roundw
    case rel => exact ⟨k + 1,by omega,by go_num,HM5,HB5,HA5⟩
    case measure => simp [intOf];omega
  · obtain rfl : n2 = k:=by omega
    have x0:=HA.out.cell 0 _ rfl
    have x1:=HA.out.cell 1 _ rfl
    have x2:=HA.out.cell 2 _ rfl
    have x3:=HA.out.cell 3 _ rfl
    have x4:=HA.out.cell 4 _ rfl
    go_wp2_with fail
    have hmx : Tryz.prog.follows .mixedOrders = true:=by kernel_rfl
    refine TillZ.region (t:=8) hmx (fun u => BoxC u w.heap.size [.int .i64 c0,.int .i64 c1,.int .i64 c2,.int .i64 c3,.slice a1 n1 a3,.slice a2 n2 a4]) ?_
    have hS0:=HA.out.drew
    clear x0 x1 x2 x3 x4
    refine TillZ.take4 (i:=0) (v:=.pointer (some ⟨w.heap.size,0,none⟩)) rfl rfl rfl (by kernel_rfl) hS0 (fun u hu => by go_simp) ?_
    simp only [pS,List.set,zT,zZ]
    refine TillZ.take4 (i:=1) (v:=.agg #[.int .i64 c0,.int .i64 c1,.int .i64 c2,.int .i64 c3]) rfl rfl rfl (by kernel_rfl) hS0 (fun u hu => by have z0:=hu.cell 0 _ rfl;have z1:=hu.cell 1 _ rfl;have z2:=hu.cell 2 _ rfl;have z3:=hu.cell 3 _ rfl;go_simp) ?_
    simp only [pS,List.set,zT,zZ,zU]
    refine TillZ.take4 (i:=2) (v:=.pointer (some ⟨w.heap.size,4,none⟩)) rfl rfl rfl (by kernel_rfl) hS0 (fun u hu => by go_simp) ?_
    simp only [pS,List.set,zT,zZ,zU]
    refine TillZ.take4 (i:=3) (v:=.slice a1 n1 a3) rfl rfl rfl (by kernel_rfl) hS0 (fun u hu => by have z4:=hu.cell 4 _ rfl;go_simp) ?_
    simp only [pS,List.set,zT,zZ,zU]
    refine TillZ.take4 (i:=5) (v:=.map (some (w.heap.size + 1))) rfl rfl rfl (by kernel_rfl) hS0 (fun u hu => by go_simp) ?_
    simp only [pS,List.set,zT,zZ,zU]
    refine TillZ.call (i:=4) (f:=153) (args:=#[.slice a1 n1 a3]) (by kernel_rfl) rfl rfl rfl (by go_simp) ?_
    refine Calls.mono (clone_any a1 n1 a3 ts _ (HR.out.below HB.out.drew).t (by omega)) ?_
    rintro e w6 ⟨v,rfl,ho,hb⟩
    obtain ⟨va,vc,rfl⟩:=own_shape ho
    have hS1:=hS0.below hb
    have HB6:=qH (HB.out.drew.trans (hb.mono HB.out.size))
    have HM6:=qH (map_below (World.ownsMap.drew HM.out) hb)
    have hlow : ∀ q,(Value.slice va n1 vc).ownBlock = some q -> w.heap.size + 1 < q:=fun q hq => Nat.lt_of_lt_of_le (World.ownsMap.lt HM.out) (ho.lt q hq).1
    have hlt2 : ∀ q,(Value.slice va n1 vc).ownBlock = some q -> q < w6.heap.size:=fun q hq => (ho.lt q hq).2
    have HO6:=qH (own_mono ho HB.out.size)
    refine ⟨_,rfl,hS1,?_⟩
    clear hb hS0 ho
    simp only [pS,List.set,zT,zZ,zU]
    refine TillZ.one (i:=6) (by kernel_rfl) ?_
    refine TillZ.opz (i:=6) (v:=.agg #[.int .i64 c0,.int .i64 c1,.int .i64 c2,.int .i64 c3,.slice va n1 vc,.map (some (w.heap.size + 1))]) (w':=w6) rfl rfl rfl (by go_simp) hS1 ?_
    simp only [pS,List.set,zT,zZ,zU]
    refine TillZ.one (i:=7) (by kernel_rfl) ?_
    refine TillZ.opz (i:=7) (v:=.pointer (some ⟨w6.heap.size,0,none⟩)) (w':=w6.alloc (.cells #[.int .i64 c0,.int .i64 c1,.int .i64 c2,.int .i64 c3,.slice va n1 vc,.map (some (w.heap.size + 1))] 210)) rfl rfl rfl (by go_simp) (hS1.alloc _) ?_
    simp only [pS,List.set,zT,zZ,zU]
    refine TillZ.hand (v:=.pointer (some ⟨w6.heap.size,0,none⟩)) (by kernel_rfl) rfl rfl (by go_simp) ?_
    simp only [pS,List.set,zT,zZ,zU]
    refine TillZ.any_done (by kernel_rfl) ?_ _
    have hDr : Dr (w6.alloc (.cells #[.int .i64 c0,.int .i64 c1,.int .i64 c2,.int .i64 c3,.slice va n1 vc,.map (some (w.heap.size + 1))] 210)) w.heap.size w6.heap.size (w.heap.size + 1) (.slice va n1 vc) ⟨c0,c1,c2,c3,ts,is⟩ :=
     ⟨BoxC.made _ _ _,by dsimp only;rw [hl1];exact World.ownsRow.alloc HO6.out _,fun q hq => ⟨by have:=hlt2 q hq;omega,by have:=hlow q hq;omega⟩,HB6.out.size,by omega,by have:=World.ownsMap.lt HM6.out;omega,by
      have:=HM6.out
      rw [List.take_of_length_le (by omega)] at this
      dsimp only
      rw [hl2]
      exact World.ownsMap.alloc this _,HRI.out⟩
    have HDR:=qH hDr
    have HB7:=qH (HB6.out.alloc HB6.out.size (.cells #[.int .i64 c0,.int .i64 c1,.int .i64 c2,.int .i64 c3,.slice va n1 vc,.map (some (w.heap.size + 1))] 210))
    clear hDr hlow hlt2
    go_wp2_with fail
    go_ret
    exact ⟨_,_,_,rfl,HDR.out,HB7.out⟩
end Go.Proofs.YthkbcjnbmciolaaGreatDoor
namespace Go.Proofs.YthkbcjnbmciolaaGreatDoor
open Go.Shelf
def LTryz.keys156_ren : Go.Shelf.Ren:=⟨fun | 7 => 156 | 10 => 168 | n => n,fun | 23 => 207 | 26 => 9 | 3 => 62 | 28 => 216 | 0 => 0 | 27 => 215 | 33 => 93 | 4 => 4 | n => n,fun | n => n⟩
theorem LTryz.keys156 : Go.Proofs.SlLaysZ.n7 Tryz.prog LTryz.keys156_ren:={
 mixed:=by kernel_rfl
 f7:=⟨Tryz.f156.name,by decide,Tryz.func156.trans (congrArg some (by kernel_rfl))⟩
 f10:=⟨Tryz.f168.name,by decide,Tryz.func168.trans (congrArg some (by kernel_rfl))⟩
 t0:=Tryz.underlying0
 a0:=Tryz.isAgg0
 z0:=Tryz.sizeOf0
 v0:=Tryz.zeroValue0
 t4:=Tryz.underlying4
 a4:=Tryz.isAgg4
 z4:=Tryz.sizeOf4
 v4:=Tryz.zeroValue4
 t23:=Tryz.underlying207
 a23:=Tryz.isAgg207
 z23:=Tryz.sizeOf207
 v23:=Tryz.zeroValue207
 t26:=Tryz.underlying9
 a26:=Tryz.isAgg9
 z26:=Tryz.sizeOf9
 v26:=Tryz.zeroValue9
 t27:=Tryz.underlying215
 a27:=Tryz.isAgg215
 z27:=Tryz.sizeOf215
 v27:=Tryz.zeroValue215
 t28:=Tryz.underlying216
 a28:=Tryz.isAgg216
 z28:=Tryz.sizeOf216
 v28:=Tryz.zeroValue216
 t33:=Tryz.underlying93
 a33:=Tryz.isAgg93
 z33:=Tryz.sizeOf93
 v33:=Tryz.zeroValue93 }
def LTryz.sorted155_ren : Go.Shelf.Ren:=⟨fun | 6 => 155 | 8 => 166 | 9 => 167 | 11 => 172 | 13 => 174 | 12 => 173 | 23 => 184 | 24 => 185 | 14 => 175 | 15 => 176 | 16 => 177 | 17 => 178 | 18 => 179 | 19 => 180 | 20 => 181 | 21 => 182 | 22 => 183 | 25 => 186 | 26 => 187 | 27 => 188 | 28 => 189 | 29 => 190 | 30 => 191 | 31 => 192 | n => n,fun | 26 => 9 | 28 => 216 | 24 => 131 | 0 => 0 | 3 => 3 | 37 => 148 | 48 => 147 | 50 => 158 | 4 => 4 | 40 => 259 | 39 => 258 | 45 => 264 | 5 => 5 | 9 => 9 | 51 => 268 | 55 => 272 | 57 => 274 | 58 => 275 | 33 => 93 | n => n,fun | n => n⟩
theorem LTryz.sorted155 : Go.Proofs.SlLaysZ.n6 Tryz.prog LTryz.sorted155_ren:={
 mixed:=by kernel_rfl
 f6:=⟨Tryz.f155.name,by decide,Tryz.func155.trans (congrArg some (by kernel_rfl))⟩
 f8:=⟨Tryz.f166.name,by decide,Tryz.func166.trans (congrArg some (by kernel_rfl))⟩
 f11:=⟨Tryz.f172.name,by decide,Tryz.func172.trans (congrArg some (by kernel_rfl))⟩
 t0:=Tryz.underlying0
 a0:=Tryz.isAgg0
 z0:=Tryz.sizeOf0
 v0:=Tryz.zeroValue0
 t24:=Tryz.underlying131
 a24:=Tryz.isAgg131
 z24:=Tryz.sizeOf131
 v24:=Tryz.zeroValue131
 t26:=Tryz.underlying9
 a26:=Tryz.isAgg9
 z26:=Tryz.sizeOf9
 v26:=Tryz.zeroValue9
 t28:=Tryz.underlying216
 a28:=Tryz.isAgg216
 z28:=Tryz.sizeOf216
 v28:=Tryz.zeroValue216
 i26:=by kernel_rfl }
def LTryz.sort167_ren : Go.Shelf.Ren:=⟨fun | 6 => 167 | 8 => 174 | 9 => 173 | 19 => 184 | 20 => 185 | 21 => 175 | 22 => 176 | 23 => 177 | 24 => 178 | 25 => 179 | 26 => 180 | 27 => 181 | 28 => 182 | 29 => 183 | 36 => 186 | 31 => 187 | 32 => 188 | 37 => 189 | 38 => 190 | 39 => 191 | 41 => 192 | n => n,fun | 27 => 131 | 29 => 9 | 3 => 3 | 32 => 148 | 26 => 131 | 0 => 0 | 44 => 147 | 46 => 158 | 4 => 4 | 36 => 259 | 35 => 258 | 41 => 264 | 5 => 5 | 9 => 9 | 53 => 268 | 57 => 272 | 63 => 274 | 64 => 275 | n => n,fun | n => n⟩
theorem LTryz.sort167 : Go.Proofs.SlLaysM.n6 Tryz.prog LTryz.sort167_ren:={
 mixed:=by kernel_rfl
 f6:=⟨Tryz.f167.name,by decide,Tryz.func167.trans (congrArg some (by kernel_rfl))⟩
 f8:=Tryz.func174.trans (congrArg some (by kernel_rfl))
 f9:=⟨Tryz.f173.name,by decide,Tryz.func173.trans (congrArg some (by kernel_rfl))⟩
 f19:=Tryz.func184.trans (congrArg some (by kernel_rfl))
 f20:=Tryz.func185.trans (congrArg some (by kernel_rfl))
 f21:=⟨Tryz.f175.name,by decide,Tryz.func175.trans (congrArg some (by kernel_rfl))⟩
 f22:=⟨Tryz.f176.name,by decide,Tryz.func176.trans (congrArg some (by kernel_rfl))⟩
 f23:=⟨Tryz.f177.name,by decide,Tryz.func177.trans (congrArg some (by kernel_rfl))⟩
 f24:=⟨Tryz.f178.name,by decide,Tryz.func178.trans (congrArg some (by kernel_rfl))⟩
 f25:=⟨Tryz.f179.name,by decide,Tryz.func179.trans (congrArg some (by kernel_rfl))⟩
 f26:=⟨Tryz.f180.name,by decide,Tryz.func180.trans (congrArg some (by kernel_rfl))⟩
 f27:=⟨Tryz.f181.name,by decide,Tryz.func181.trans (congrArg some (by kernel_rfl))⟩
 f28:=⟨Tryz.f182.name,by decide,Tryz.func182.trans (congrArg some (by kernel_rfl))⟩
 f29:=⟨Tryz.f183.name,by decide,Tryz.func183.trans (congrArg some (by kernel_rfl))⟩
 f31:=Tryz.func187.trans (congrArg some (by kernel_rfl))
 f32:=Tryz.func188.trans (congrArg some (by kernel_rfl))
 f36:=⟨Tryz.f186.name,by decide,Tryz.func186.trans (congrArg some (by kernel_rfl))⟩
 f37:=⟨Tryz.f189.name,by decide,Tryz.func189.trans (congrArg some (by kernel_rfl))⟩
 f38:=⟨Tryz.f190.name,by decide,Tryz.func190.trans (congrArg some (by kernel_rfl))⟩
 f39:=⟨Tryz.f191.name,by decide,Tryz.func191.trans (congrArg some (by kernel_rfl))⟩
 f41:=⟨Tryz.f192.name,by decide,Tryz.func192.trans (congrArg some (by kernel_rfl))⟩
 t0:=Tryz.underlying0
 a0:=Tryz.isAgg0
 z0:=Tryz.sizeOf0
 v0:=Tryz.zeroValue0
 t3:=Tryz.underlying3
 a3:=Tryz.isAgg3
 z3:=Tryz.sizeOf3
 v3:=Tryz.zeroValue3
 t4:=Tryz.underlying4
 a4:=Tryz.isAgg4
 z4:=Tryz.sizeOf4
 v4:=Tryz.zeroValue4
 t5:=Tryz.underlying5
 a5:=Tryz.isAgg5
 z5:=Tryz.sizeOf5
 v5:=Tryz.zeroValue5
 t9:=Tryz.underlying9
 a9:=Tryz.isAgg9
 z9:=Tryz.sizeOf9
 v9:=Tryz.zeroValue9
 t26:=Tryz.underlying131
 a26:=Tryz.isAgg131
 z26:=Tryz.sizeOf131
 v26:=Tryz.zeroValue131
 t27:=Tryz.underlying131
 a27:=Tryz.isAgg131
 z27:=Tryz.sizeOf131
 v27:=Tryz.zeroValue131
 t29:=Tryz.underlying9
 a29:=Tryz.isAgg9
 z29:=Tryz.sizeOf9
 v29:=Tryz.zeroValue9
 t32:=Tryz.underlying148
 a32:=Tryz.isAgg148
 z32:=Tryz.sizeOf148
 v32:=Tryz.zeroValue148
 t35:=Tryz.underlying258
 a35:=Tryz.isAgg258
 z35:=Tryz.sizeOf258
 v35:=Tryz.zeroValue258
 t36:=Tryz.underlying259
 a36:=Tryz.isAgg259
 z36:=Tryz.sizeOf259
 v36:=Tryz.zeroValue259
 t41:=Tryz.underlying264
 a41:=Tryz.isAgg264
 z41:=Tryz.sizeOf264
 v41:=Tryz.zeroValue264
 t44:=Tryz.underlying147
 a44:=Tryz.isAgg147
 z44:=Tryz.sizeOf147
 v44:=Tryz.zeroValue147
 t46:=Tryz.underlying158
 a46:=Tryz.isAgg158
 z46:=Tryz.sizeOf158
 v46:=Tryz.zeroValue158
 t53:=Tryz.underlying268
 a53:=Tryz.isAgg268
 z53:=Tryz.sizeOf268
 v53:=Tryz.zeroValue268
 t57:=Tryz.underlying272
 a57:=Tryz.isAgg272
 z57:=Tryz.sizeOf272
 v57:=Tryz.zeroValue272
 t63:=Tryz.underlying274
 a63:=Tryz.isAgg274
 z63:=Tryz.sizeOf274
 v63:=Tryz.zeroValue274
 t64:=Tryz.underlying275
 a64:=Tryz.isAgg275
 z64:=Tryz.sizeOf275
 v64:=Tryz.zeroValue275 }
end Go.Proofs.YthkbcjnbmciolaaGreatDoor
