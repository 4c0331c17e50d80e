/- Used by the law. -/
import Derived.WideShapes
import Derived.WideAt
import Derived.Maps.OwnSet
import Derived.Sort.KeysCollected
import Derived.Sort.Walk0
import Derived.Test.YtbgoldeopmlbnaaGreatDoorQB13
set_option maxRecDepth 100000
set_option maxHeartbeats 16000000
namespace Go.Proofs.YtbgoldeopmlbnaaGreatDoor
open Go.RowKit Go.PlainAid G
set_option linter.unusedVariables false
theorem less_before : ∀ x y : List UInt8,Op.bytesLess x y = bytesBefore x y
 | [],[] => rfl
 | [],_ :: _ => rfl
 | _ :: _,[] => rfl
 | a :: r,b :: s => by simp only [Op.bytesLess,bytesBefore,less_before r s]
theorem ltS_bytes (a b : ByteArray) : ltS a b = bytesBefore a.data.toList b.data.toList:=by
 unfold ltS
 rw [less_before,Lib.toList_data,Lib.toList_data]
theorem ba_inj {a b : ByteArray} (h : a.data.toList = b.data.toList) : a = b:=ByteArray.ext (Array.toList_inj.1 h)
theorem ltS_tr {a b c : ByteArray} (h1 : ltS a b = true) (h2 : ltS b c = true) : ltS a c = true:=by
 rw [ltS_bytes] at *
 exact WideShapes.bytes_trans _ _ _ h1 h2
theorem ltS_ir (a : ByteArray) : ltS a a = false:=by rw [ltS_bytes];exact WideAt.bytes_irrefl _
theorem ltS_tot {a b : ByteArray} (h : a ≠ b) : ltS a b = true ∨ ltS b a = true:=by
 rw [ltS_bytes,ltS_bytes]
 exact WideAt.bytes_total _ _ (fun e => h (ba_inj e))
theorem ltS_ne {a b : ByteArray} (h : ltS a b = true) : a ≠ b:=fun e => by subst e;rw [ltS_ir] at h;cases h
theorem ltS_asym {a b : ByteArray} (h : ltS a b = true) : ltS b a = false:=by
 cases h2 : ltS b a
 · rfl
 · have:=ltS_tr h h2
   rw [ltS_ir] at this
   cases this
theorem leS_not (a b : ByteArray) : (Op.bytesLess a.toList b.toList || a.toList == b.toList) = !(ltS b a):=by
 show (ltS a b || a.toList == b.toList) = _
 by_cases h : a = b
 · subst h;rw [ltS_ir];simp
 · have h2 : (a.toList == b.toList) = false:=by
    rw [beq_eq_false_iff_ne,Lib.toList_data,Lib.toList_data]
    exact fun e => h (ba_inj e)
   rw [h2,Bool.or_false]
   rcases ltS_tot h with h3 | h3
   · rw [h3,ltS_asym h3];rfl
   · rw [h3,ltS_asym h3];rfl
theorem leq_str (a b : ByteArray) (W : World) : (binOp .leq 9 (.string a) (.string b)).run Tryz.prog W = .ok (.bool (!(ltS b a))) W:=by
 rw [<- leS_not]
 simp only [binOp]
 rfl
end Go.Proofs.YtbgoldeopmlbnaaGreatDoor
namespace Go.Proofs.YtbgoldeopmlbnaaGreatDoor
open Go.RowKit Go.PlainAid G IRow
set_option linter.unusedVariables false
def imDat (x : Im) : DataW Unit:=.agg [.lit (.string x.nm.data.toList),.lit (.int .i64 x.tm),.lit (.string x.bd.data.toList)]
def imKey (nm : ByteArray) : Lit:=.string nm.data.toList
def imR (v : Value) : Option (DataW Unit × List MemPlace) :=
 match v with
 | .agg cs => match cs.toList with
  | [.string nm,.int .i64 tm,.string bd] => some (imDat ⟨nm,tm,bd⟩,[])
  | _ => none
 | _ => none
theorem imDat_inj {x y : Im} (h : imDat x = imDat y) : x = y:=by
 obtain ⟨a,b,c⟩:=x
 obtain ⟨a',b',c'⟩:=y
 simp only [imDat,DataW.agg.injEq,List.cons.injEq,DataW.lit.injEq,Lit.string.injEq,Lit.int.injEq,true_and,and_true] at h
 obtain ⟨h1,h2,h3⟩:=h
 rw [ba_inj h1,h2,ba_inj h3]
theorem imR_inv {v : Value} {x : Im} {ps : List MemPlace} (h : imR v = some (imDat x,ps)) : v = .agg #[.string x.nm,.int .i64 x.tm,.string x.bd]:=by
 unfold imR at h
 split at h
 · split at h
   · rename_i e
     simp only [Option.some.injEq,Prod.mk.injEq] at h
     have:=imDat_inj h.1
     rw [<- this]
     exact congrArg Value.agg (Array.toList_inj.1 e)
   · cases h
 · cases h
def RiseI (is : List Im) : Prop:=is.Pairwise (fun x y => ltS x.nm y.nm = true)
def entI (x : Im) : Lit × DataW Unit:=(imKey x.nm,imDat x)
def mapI (is : List Im) : DataW Unit:=.map (is.map entI)
theorem before_ltS (a b : ByteArray) : (imKey a).before (imKey b) = ltS a b:=(ltS_bytes a b).symm
theorem sameKey_imKey (a b : ByteArray) : (imKey a).sameKey (imKey b) = decide (a = b):=by
 show (a.data.toList == b.data.toList) = _
 by_cases h : a = b
 · subst h;simp
 · rw [decide_eq_false h,beq_eq_false_iff_ne]
   exact fun e => h (ba_inj e)
theorem rise_of {n : Nat} {is : List Im} (h : allTo' (iAt n is) is.length = true) : RiseI is:=by
 rw [RiseI,List.pairwise_iff_getElem]
 intro i j hi hj hij
 induction j with
 | zero => omega
 | succ j ih =>
  have h1:=allTo'_iff.1 h (j + 1) hj
  have h2 : ltS (is[j]'(by omega)).nm is[j + 1].nm = true:=by
   unfold iAt at h1
   rw [Bool.and_eq_true] at h1
   have h3:=h1.2
   rw [decide_eq_false (by omega : ¬ (j + 1 = 0)),Bool.false_or] at h3
   have hj2 : j < is.length:=by omega
   simpa [List.getD,List.getElem?_eq_getElem hj,List.getElem?_eq_getElem hj2] using h3
  rcases Nat.lt_or_ge i j with h4 | h4
  · exact ltS_tr (ih (by omega) h4) h2
  · obtain rfl : i = j:=by omega
    exact h2
def genI (xs : List Im) (nm : ByteArray) : List Im -> List Im
 | [] => xs
 | y :: r => if ltS y.nm nm = true then y :: genI xs nm r else if y.nm = nm then xs ++ r else xs ++ y :: r
theorem atI_cons (y : Im) (r : List Im) (nm : ByteArray) : atI (y :: r) nm = if ltS y.nm nm = true then atI r nm + 1 else 0:=by
 unfold atI
 rw [List.findIdx_cons]
 cases ltS y.nm nm <;> rfl
theorem hasI_cons (y : Im) (r : List Im) (nm : ByteArray) : hasI (y :: r) nm = if ltS y.nm nm = true then hasI r nm else decide (y.nm = nm):=by
 unfold hasI
 rw [atI_cons]
 by_cases h : ltS y.nm nm = true
 · rw [if_pos h,if_pos h]
   simp
 · rw [if_neg h,if_neg h]
   simp
theorem items_gen (d : Dd) : ∀ is : List Im,itemsL is d = genI (if d.kd = 3 then [imOf d] else []) d.nm is
 | [] => by simp [itemsL,genI]
 | y :: r => by
  have ih:=items_gen d r
  unfold itemsL at ih ⊢
  rw [atI_cons,hasI_cons]
  unfold genI
  by_cases h : ltS y.nm d.nm = true
  · rw [if_pos h,if_pos h,if_pos h,List.take_succ_cons,List.cons_append,<- ih]
    congr 3
    split <;> simp
  · rw [if_neg h,if_neg h,if_neg h]
    by_cases h2 : y.nm = d.nm
    · rw [decide_eq_true h2,if_pos h2];simp
    · rw [decide_eq_false h2,if_neg h2];simp
theorem keep_far {nm : ByteArray} {r : List Im} (h : ∀ z ∈ r,z.nm ≠ nm) : (r.map entI).filter (fun p => !p.1.sameKey (imKey nm)) = r.map entI:=by
 refine List.filter_eq_self.2 fun p hp => ?_
 obtain ⟨z,hz,rfl⟩:=List.mem_map.1 hp
 show (!(imKey z.nm).sameKey (imKey nm)) = true
 rw [sameKey_imKey,decide_eq_false (h z hz)];rfl
theorem put_list {x : Im} : ∀ {is : List Im},RiseI is -> (genI [x] x.nm is).map entI = DataW.insert (imKey x.nm,imDat x) ((is.map entI).filter fun p => !p.1.sameKey (imKey x.nm))
 | [],_ => rfl
 | y :: r,h => by
  obtain ⟨h0,hr⟩:=List.pairwise_cons.1 h
  unfold genI
  rw [List.map_cons,List.filter_cons]
  show _ = DataW.insert _ (if (!(imKey y.nm).sameKey (imKey x.nm)) = true then _ else _)
  rw [sameKey_imKey]
  by_cases h1 : ltS y.nm x.nm = true
  · rw [if_pos h1,decide_eq_false (ltS_ne h1),if_pos (show (!false) = true from rfl),List.map_cons]
    unfold DataW.insert
    rw [if_neg (by show ¬ (imKey x.nm).before (imKey y.nm) = true;rw [before_ltS,ltS_asym h1];decide)]
    rw [put_list hr]
  · rw [if_neg h1]
    by_cases h2 : y.nm = x.nm
    · rw [if_pos h2,decide_eq_true h2,if_neg (show ¬ (!true) = true by decide),keep_far (fun z hz => (h2 ▸ ltS_ne (h0 z hz)).symm)]
      cases r with
      | nil => rfl
      | cons z r =>
       show _ = DataW.insert _ (entI z :: r.map entI)
       unfold DataW.insert
       rw [if_pos (by show (imKey x.nm).before (imKey z.nm) = true;rw [before_ltS,<- h2];exact h0 z (by simp))]
       rfl
    · have h3 : ltS x.nm y.nm = true:=(ltS_tot h2).resolve_left h1
      rw [if_neg h2,decide_eq_false h2,if_pos (show (!false) = true from rfl),keep_far (fun z hz => (ltS_ne (ltS_tr h3 (h0 z hz))).symm)]
      unfold DataW.insert
      rw [if_pos (by show (imKey x.nm).before (imKey y.nm) = true;rw [before_ltS];exact h3)]
      rfl
theorem mapI_put {x : Im} {is : List Im} (h : RiseI is) : mapI (genI [x] x.nm is) = (mapI is).put (imKey x.nm) (imDat x):=by
 show DataW.map _ = DataW.map _
 rw [put_list h]
theorem del_list {nm : ByteArray} : ∀ {is : List Im},RiseI is -> (genI [] nm is).map entI = (is.map entI).filter fun p => !p.1.sameKey (imKey nm)
 | [],_ => rfl
 | y :: r,h => by
  obtain ⟨h0,hr⟩:=List.pairwise_cons.1 h
  unfold genI
  rw [List.map_cons,List.filter_cons]
  show _ = (if (!(imKey y.nm).sameKey (imKey nm)) = true then _ else _)
  rw [sameKey_imKey]
  by_cases h1 : ltS y.nm nm = true
  · rw [if_pos h1,decide_eq_false (ltS_ne h1),if_pos (show (!false) = true from rfl),List.map_cons,del_list hr]
  · rw [if_neg h1]
    by_cases h2 : y.nm = nm
    · rw [if_pos h2,decide_eq_true h2,if_neg (show ¬ (!true) = true by decide),keep_far (fun z hz => (h2 ▸ ltS_ne (h0 z hz)).symm)];rfl
    · have h3 : ltS nm y.nm = true:=(ltS_tot h2).resolve_left h1
      rw [if_neg h2,decide_eq_false h2,if_pos (show (!false) = true from rfl),keep_far (fun z hz => (ltS_ne (ltS_tr h3 (h0 z hz))).symm)];rfl
theorem mapI_del {nm : ByteArray} {is : List Im} (h : RiseI is) : mapI (genI [] nm is) = (mapI is).del (imKey nm):=by
 show DataW.map _ = DataW.map _
 rw [del_list h]
theorem mem_gen {xs : List Im} {nm : ByteArray} {z : Im} : ∀ {is : List Im},z ∈ genI xs nm is -> z ∈ xs ∨ z ∈ is
 | [],h => .inl h
 | y :: r,h => by
  unfold genI at h
  split at h
  · rcases List.mem_cons.1 h with rfl | h
    · exact .inr (by simp)
    · exact (mem_gen h).imp id (fun h => by simp [h])
  · split at h
    · rcases List.mem_append.1 h with h | h
      · exact .inl h
      · exact .inr (by simp [h])
    · rcases List.mem_append.1 h with h | h
      · exact .inl h
      · exact .inr h
theorem gen_rise {xs : List Im} {nm : ByteArray} (hx : xs = [] ∨ ∃ x : Im,xs = [x] /\ x.nm = nm) : ∀ {is : List Im},RiseI is -> RiseI (genI xs nm is)
 | [],_ => by
  rcases hx with rfl | ⟨x,rfl,_⟩
  · exact List.Pairwise.nil
  · exact List.pairwise_singleton _ _
 | y :: r,h => by
  have hcons:=h
  obtain ⟨h0,hr⟩:=List.pairwise_cons.1 h
  unfold genI
  by_cases h1 : ltS y.nm nm = true
  · rw [if_pos h1]
    refine List.pairwise_cons.2 ⟨fun z hz => ?_,gen_rise hx hr⟩
    rcases mem_gen hz with hz | hz
    · rcases hx with rfl | ⟨x,rfl,e⟩
      · cases hz
      · obtain rfl:=List.mem_singleton.1 hz
        rw [e];exact h1
    · exact h0 z hz
  · rw [if_neg h1]
    by_cases h2 : y.nm = nm
    · rw [if_pos h2]
      rcases hx with rfl | ⟨x,rfl,e⟩
      · exact hr
      · exact List.pairwise_cons.2 ⟨fun z hz => by rw [e,<- h2];exact h0 z hz,hr⟩
    · have h3 : ltS nm y.nm = true:=(ltS_tot h2).resolve_left h1
      rw [if_neg h2]
      rcases hx with rfl | ⟨x,rfl,e⟩
      · exact hcons
      · refine List.pairwise_cons.2 ⟨fun z hz => ?_,hcons⟩
        rw [e]
        rcases List.mem_cons.1 hz with rfl | hz
        · exact h3
        · exact ltS_tr h3 (h0 z hz)
theorem has_mapI (nm : ByteArray) : ∀ {is : List Im},RiseI is -> Maps.has (mapI is) (imKey nm) = hasI is nm
 | [],_ => rfl
 | y :: r,h => by
  obtain ⟨h0,hr⟩:=List.pairwise_cons.1 h
  have ih : (r.map entI).any (fun p => p.1.sameKey (imKey nm)) = hasI r nm:=has_mapI nm hr
  rw [hasI_cons]
  show ((y :: r).map entI).any (fun p => p.1.sameKey (imKey nm)) = _
  rw [List.map_cons,List.any_cons,ih]
  show ((imKey y.nm).sameKey (imKey nm) || _) = _
  rw [sameKey_imKey]
  by_cases h1 : ltS y.nm nm = true
  · rw [if_pos h1,decide_eq_false (ltS_ne h1),Bool.false_or]
  · rw [if_neg h1]
    by_cases h2 : y.nm = nm
    · rw [decide_eq_true h2,Bool.true_or]
    · have h3 : ltS nm y.nm = true:=(ltS_tot h2).resolve_left h1
      rw [decide_eq_false h2,Bool.false_or,<- ih,List.any_eq_false]
      intro p hp
      obtain ⟨z,hz,rfl⟩:=List.mem_map.1 hp
      show ¬ (imKey z.nm).sameKey (imKey nm) = true
      rw [sameKey_imKey,decide_eq_false (ltS_ne (ltS_tr h3 (h0 z hz))).symm]
      decide
theorem size_mapI (is : List Im) : Maps.size (mapI is) = is.length:=by simp [Maps.size,mapI]
theorem at_mapI {is : List Im} (h : RiseI is) {x : Im} (hx : x ∈ is) (z : DataW Unit) : (mapI is).atKey (imKey x.nm) z = imDat x:=by
 have hp : entI x ∈ is.map entI:=List.mem_map.2 ⟨x,hx,rfl⟩
 refine WideAt.atKey_mem (k:=imKey x.nm) (d:=imDat x) z ?_ ?_ hp
 · trivial
 · exact List.pairwise_map.2 (h.imp (fun {a b} hab e => by
    have e2 : a.nm.data.toList = b.nm.data.toList:=by simpa [entI,imKey] using e
    exact ltS_ne hab (ba_inj e2)))
theorem keys_mapI (is : List Im) : strKeys (mapI is) = is.map (fun y => y.nm.data.toList):=by
 show (is.map entI).map (fun p => strOf p.1) = _
 rw [List.map_map]
 rfl
theorem lt_le {a b : ByteArray} (h : ltS a b = true) : a.data.toList <= b.data.toList:=by
 have h2 : Op.bytesLess a.data.toList b.data.toList = true:=by rw [<- Lib.toList_data,<- Lib.toList_data];exact h
 rw [bytesLess_eq,decide_eq_true_eq] at h2
 exact List.le_of_lt h2
theorem sorted_mapI {is : List Im} (h : RiseI is) {ss : List (List UInt8)} (hp : ss.Perm (strKeys (mapI is))) : ss.mergeSort leB = is.map (fun y => y.nm.data.toList):=by
 have tr : ∀ a b c : List UInt8,leB a b = true -> leB b c = true -> leB a c = true:=fun a b c h1 h2 => by simp only [leB,decide_eq_true_eq] at *;exact List.le_trans h1 h2
 have to : ∀ a b : List UInt8,(leB a b || leB b a) = true:=fun a b => by simp only [leB,Bool.or_eq_true,decide_eq_true_eq];exact List.le_total a b
 refine List.Perm.eq_of_pairwise (le:=fun a b => leB a b = true) (fun a b _ _ h1 h2 => ?_) (List.pairwise_mergeSort tr to ss) (List.pairwise_map.2 (h.imp fun {a b} hab => by simp only [leB,decide_eq_true_eq];exact lt_le hab)) ((List.mergeSort_perm ss leB).trans (by rw [<- keys_mapI];exact hp))
 simp only [leB,decide_eq_true_eq] at h1 h2
 exact List.le_antisymm h1 h2
end Go.Proofs.YtbgoldeopmlbnaaGreatDoor
namespace Go.Proofs.YtbgoldeopmlbnaaGreatDoor.M2
open Go.PlainAid
def smallB (c : Int) : Bool:=decide (97 <= c) && decide (c <= 122)
end Go.Proofs.YtbgoldeopmlbnaaGreatDoor.M2
