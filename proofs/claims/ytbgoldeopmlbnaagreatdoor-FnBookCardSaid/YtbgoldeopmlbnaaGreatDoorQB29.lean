/- Used by the law. -/
import Derived.Lib.AppendStr
import Derived.Deep.CutRange
import Derived.Test.YtbgoldeopmlbnaaGreatDoorQB22
import Derived.Test.YtbgoldeopmlbnaaGreatDoorQB28
set_option maxRecDepth 100000
set_option maxHeartbeats 16000000
namespace Go.Proofs.YtbgoldeopmlbnaaGreatDoor
open Go.RowKit Go.PlainAid G MGet MGF IRow MNum MJoin
set_option linter.unusedVariables false
theorem sN_at {u x y : ByteArray} {n : Int} {q : Plc} (hu : u = x ++ numS n ++ y) (hq : q = (x.size,false)) (h : i64P n) : sN u q = (n,((x ++ numS n).size,false)):=by
 subst hu hq
 have e:=get_mid h x y
 unfold sN
 dsimp only
 rw [e]
 rw [if_pos rfl,ByteArray.size_append]
 congr 2
theorem cut_mid (x t u y : ByteArray) : (x ++ (t ++ u) ++ y).extract (x.size + t.size) (x.size + t.size + u.size) = u:=by
 apply ByteArray.ext
 apply Array.toList_inj.1
 rw [Lib.extract_data]
 have e : (x ++ (t ++ u) ++ y).data.toList = (x.data.toList ++ t.data.toList) ++ (u.data.toList ++ y.data.toList):=by simp
 have hl : (x.data.toList ++ t.data.toList).length = x.size + t.size:=by simp
 have hu : u.data.toList.length = u.size:=by simp
 rw [e,<- hl,List.drop_left,Nat.add_sub_cancel_left,<- hu,List.take_left]
theorem txtS_mid (x u y : ByteArray) (hu : u.size <= 8000) : txtS (x ++ (numS u.size ++ u) ++ y) x.size = (u,(x.size : Int) + ((numS u.size).size : Int) + (u.size : Int),0):=by
 have h:=get_mid (size_i64 hu) x (u ++ y)
 rw [show x ++ numS u.size ++ (u ++ y) = x ++ (numS u.size ++ u) ++ y by simp only [ByteArray.append_assoc]] at h
 generalize numS u.size = t at *
 have e : ((x.size : Int) + (t.size : Int)) = ((x.size + t.size : Nat) : Int):=by omega
 rw [e] at h
 rw [txt_ok h hu (by simp only [ByteArray.size_append];omega),<- e,cut_mid]
theorem sT_at {u x y t : ByteArray} {q : Plc} (hu : u = x ++ putTextS t ++ y) (hq : q = (x.size,false)) (h : t.size <= 8000) : sT u q = (t,((x ++ putTextS t).size,false)):=by
 subst hu hq
 rw [putTextS_short h]
 have e:=txtS_mid x t y h
 unfold sT
 dsimp only
 rw [e]
 have e2 : ((x.size : Int) + ((numS (t.size : Int)).size : Int) + (t.size : Int)).toNat = (x ++ (numS (t.size : Int) ++ t)).size:=by simp only [ByteArray.size_append];omega
 rw [if_pos rfl]
 dsimp only
 rw [e2]
theorem i64_pos {n : Int} (h0 : 0 <= n) (h1 : n <= 4294967295) : i64P n:=by unfold i64P;omega
theorem deed_mid {d : Dd} (h : deedOf d = true) (x y : ByteArray) : rdDeed (x ++ deedTx d ++ y) (x.size,false) = (d,((x ++ deedTx d).size,false)):=by
 obtain ⟨kd,gn,nd,mn,ck,no,lk,nm,tm,bd⟩:=d
 have hB:=deedB_bounds (show deedB kd gn nd mn ck no lk nm tm bd = true from h)
 have h' : deedB kd gn nd mn ck no lk nm tm bd = true:=h
 unfold deedTx deedT
 dsimp only
 rcases hB with ⟨rfl,h1,h2,h3,h4⟩ | ⟨rfl,h1,h2⟩ | ⟨rfl,h1,h2,h3⟩ | ⟨rfl,h1⟩
 · unfold deedB at h'
   simp only [if_pos,Bool.and_eq_true,decide_eq_true_eq] at h'
   obtain ⟨⟨_,rfl,rfl⟩,rfl,rfl,rfl⟩:=h'
   rw [if_pos rfl]
   generalize hu : x ++ (numS 1 ++ numS gn ++ numS nd ++ numS mn ++ numS ck) ++ y = u
   have s0:=sN_at (u:=u) (x:=x) (y:=numS gn ++ numS nd ++ numS mn ++ numS ck ++ y) (n:=1) (by rw [<- hu];simp only [ByteArray.append_assoc]) rfl (i64_pos (by omega) (by omega))
   have s1:=sN_at (u:=u) (x:=x ++ numS 1) (y:=numS nd ++ numS mn ++ numS ck ++ y) (n:=gn) (by rw [<- hu];simp only [ByteArray.append_assoc]) rfl (i64_pos (by omega) (by omega))
   have s2:=sN_at (u:=u) (x:=x ++ numS 1 ++ numS gn) (y:=numS mn ++ numS ck ++ y) (n:=nd) (by rw [<- hu];simp only [ByteArray.append_assoc]) rfl (i64_pos (by omega) (by omega))
   have s3:=sN_at (u:=u) (x:=x ++ numS 1 ++ numS gn ++ numS nd) (y:=numS ck ++ y) (n:=mn) (by rw [<- hu];simp only [ByteArray.append_assoc]) rfl (i64_pos (by omega) (by omega))
   have s4:=sN_at (u:=u) (x:=x ++ numS 1 ++ numS gn ++ numS nd ++ numS mn) (y:=y) (n:=ck) (by rw [<- hu];simp only [ByteArray.append_assoc]) rfl (i64_pos (by omega) (by omega))
   unfold rdDeed
   rw [s0]
   unfold rcRest rcConf
   dsimp only
   rw [if_pos rfl,s1]
   dsimp only
   rw [s2]
   dsimp only
   rw [s3]
   dsimp only
   rw [s4]
   simp only [ByteArray.append_assoc]
 · unfold deedB at h'
   rw [if_neg (by decide),if_pos rfl] at h'
   simp only [Bool.and_eq_true,decide_eq_true_eq] at h'
   obtain ⟨⟨⟨rfl,rfl,rfl,rfl⟩,_⟩,rfl,rfl,rfl⟩:=h'
   rw [if_neg (by decide),if_pos rfl]
   generalize hu : x ++ (numS 2 ++ numS no ++ putTextS lk) ++ y = u
   have s0:=sN_at (u:=u) (x:=x) (y:=numS no ++ putTextS lk ++ y) (n:=2) (by rw [<- hu];simp only [ByteArray.append_assoc]) rfl (i64_pos (by omega) (by omega))
   have s1:=sN_at (u:=u) (x:=x ++ numS 2) (y:=putTextS lk ++ y) (n:=no) (by rw [<- hu];simp only [ByteArray.append_assoc]) rfl (i64_pos (by omega) (by omega))
   have s2:=sT_at (u:=u) (x:=x ++ numS 2 ++ numS no) (y:=y) (t:=lk) (by rw [<- hu];simp only [ByteArray.append_assoc]) rfl (by omega)
   unfold rdDeed
   rw [s0]
   unfold rcRest rcTerm
   dsimp only
   rw [if_neg (by decide),if_pos rfl,s1]
   dsimp only
   rw [s2]
   simp only [ByteArray.append_assoc]
 · unfold deedB at h'
   rw [if_neg (by decide),if_neg (by decide),if_pos rfl] at h'
   simp only [Bool.and_eq_true,decide_eq_true_eq] at h'
   obtain ⟨⟨⟨rfl,rfl,rfl,rfl⟩,rfl,rfl⟩,_⟩:=h'
   rw [if_neg (by decide),if_neg (by decide),if_pos rfl]
   generalize hu : x ++ (numS 3 ++ putTextS nm ++ numS tm ++ putTextS bd) ++ y = u
   have s0:=sN_at (u:=u) (x:=x) (y:=putTextS nm ++ numS tm ++ putTextS bd ++ y) (n:=3) (by rw [<- hu];simp only [ByteArray.append_assoc]) rfl (i64_pos (by omega) (by omega))
   have s1:=sT_at (u:=u) (x:=x ++ numS 3) (y:=numS tm ++ putTextS bd ++ y) (t:=nm) (by rw [<- hu];simp only [ByteArray.append_assoc]) rfl (by omega)
   have s2:=sN_at (u:=u) (x:=x ++ numS 3 ++ putTextS nm) (y:=putTextS bd ++ y) (n:=tm) (by rw [<- hu];simp only [ByteArray.append_assoc]) rfl (i64_pos (by omega) (by omega))
   have s3:=sT_at (u:=u) (x:=x ++ numS 3 ++ putTextS nm ++ numS tm) (y:=y) (t:=bd) (by rw [<- hu];simp only [ByteArray.append_assoc]) rfl (by omega)
   unfold rdDeed
   rw [s0]
   unfold rcRest rcPut
   dsimp only
   rw [if_neg (by decide),if_neg (by decide),if_pos rfl,s1]
   dsimp only
   rw [s2]
   dsimp only
   rw [s3]
   simp only [ByteArray.append_assoc]
 · unfold deedB at h'
   rw [if_neg (by decide),if_neg (by decide),if_neg (by decide),if_pos rfl] at h'
   simp only [Bool.and_eq_true,decide_eq_true_eq] at h'
   obtain ⟨⟨⟨⟨rfl,rfl,rfl,rfl⟩,rfl,rfl⟩,_,rfl,rfl⟩,_⟩:=h'
   rw [if_neg (by decide),if_neg (by decide),if_neg (by decide)]
   generalize hu : x ++ (numS 4 ++ putTextS nm) ++ y = u
   have s0:=sN_at (u:=u) (x:=x) (y:=putTextS nm ++ y) (n:=4) (by rw [<- hu];simp only [ByteArray.append_assoc]) rfl (i64_pos (by omega) (by omega))
   have s1:=sT_at (u:=u) (x:=x ++ numS 4) (y:=y) (t:=nm) (by rw [<- hu];simp only [ByteArray.append_assoc]) rfl (by omega)
   unfold rdDeed
   rw [s0]
   unfold rcRest rcDel
   dsimp only
   rw [if_neg (by decide),if_neg (by decide),if_neg (by decide),if_pos rfl,s1]
   simp only [ByteArray.append_assoc]
theorem txTo_pre (ds : List Dd) {k n : Nat} (hk : k <= n) (hn : n <= ds.length) : ∃ y,txTo ds n = txTo ds k ++ y:=by
 induction n with
 | zero => exact ⟨⟨#[]⟩,by rw [show k = 0 by omega];exact (cut_none _ _ rfl).symm⟩
 | succ n ih =>
  by_cases e : k = n + 1
  · subst e;exact ⟨⟨#[]⟩,(cut_none _ _ rfl).symm⟩
  · obtain ⟨y,hy⟩:=ih (by omega) (by omega)
    exact ⟨y ++ deedTx (ds.getD n ddD),by rw [txTo_succ (by omega),hy,ByteArray.append_assoc]⟩
theorem tx_pl {ds : List Dd} (h : ∀ i,i < ds.length -> deedOf (ds.getD i ddD) = true) : ∀ k,k <= ds.length -> plAt (txTo ds ds.length) ((numS (ds.length : Int)).size,false) k = ((txTo ds k).size,false)
 | 0,_ => rfl
 | k + 1,hk => by
  obtain ⟨y,hy⟩:=txTo_pre ds (k:=k + 1) (n:=ds.length) hk (Nat.le_refl _)
  have h1:=tx_pl h k (by omega)
  unfold plAt
  rw [h1,hy,txTo_succ (by omega),deed_mid (h k (by omega))]
theorem tx_dd {ds : List Dd} (h : ∀ i,i < ds.length -> deedOf (ds.getD i ddD) = true) {k : Nat} (hk : k < ds.length) : rdDeed (txTo ds ds.length) (plAt (txTo ds ds.length) ((numS (ds.length : Int)).size,false) k) = (ds.getD k ddD,((txTo ds (k + 1)).size,false)):=by
 obtain ⟨y,hy⟩:=txTo_pre ds (k:=k + 1) (n:=ds.length) hk (Nat.le_refl _)
 rw [tx_pl h k (by omega),hy,txTo_succ hk,deed_mid (h k hk)]
theorem txOk_iff {ds : List Dd} : txOk ds = true ↔ (1 <= ds.length /\ ds.length <= 10) /\ ∀ i,i < ds.length -> deedOf (ds.getD i ddD) = true:=by
 unfold txOk
 rw [Bool.and_eq_true,decide_eq_true_eq,allTo'_iff]
theorem rdTx_tx {ds : List Dd} (hok : txOk ds = true) : rdTx (txTo ds ds.length) = ds:=by
 obtain ⟨⟨h1,h2⟩,h⟩:=txOk_iff.1 hok
 obtain ⟨y,hy⟩:=txTo_pre ds (k:=0) (n:=ds.length) (Nat.zero_le _) (Nat.le_refl _)
 have s0 : sN (txTo ds ds.length) (0,false) = ((ds.length : Int),((numS (ds.length : Int)).size,false)):=by
  have:=sN_at (u:=txTo ds ds.length) (x:=⟨#[]⟩) (y:=y) (n:=(ds.length : Int)) (q:=(0,false)) (by rw [hy,txTo_zero,nil_append]) rfl (i64_pos (by omega) (by omega))
  rw [this,nil_append]
 have hall : okTo (txTo ds ds.length) ((numS (ds.length : Int)).size,false) ds.length = true:=by
  unfold okTo
  rw [List.all_eq_true]
  intro i hi
  have hi2:=List.mem_range.1 hi
  rw [okDeed_iff,tx_dd h hi2]
  exact ⟨rfl,h i hi2⟩
 have hend : (plAt (txTo ds ds.length) ((numS (ds.length : Int)).size,false) ds.length).1 = (txTo ds ds.length).size:=by rw [tx_pl h _ (Nat.le_refl _)]
 have hlist : (List.range ds.length).map (ddAt (txTo ds ds.length) ((numS (ds.length : Int)).size,false)) = ds:=by
  apply List.ext_getElem
  · simp
  · intro i h3 h4
    rw [List.getElem_map,List.getElem_range]
    unfold ddAt
    rw [tx_dd h h4]
    simp [List.getD,h4]
 rw [rdTx_yes (by rw [s0];exact ⟨by omega,by omega,hall,hend⟩),s0]
 exact hlist
theorem txTo_size {ds : List Dd} (h : ∀ i,i < ds.length -> deedOf (ds.getD i ddD) = true) : ∀ k,k <= ds.length -> (txTo ds k).size <= 10 + 200 * k
 | 0,_ => by rw [txTo_zero];have:=(numS_size (ds.length : Int)).2;omega
 | k + 1,hk => by
  have h1:=txTo_size h k (by omega)
  have h2:=deedT_size (h k (by omega))
  rw [txTo_succ (by omega),ByteArray.size_append]
  unfold deedTx
  omega
theorem putSeal_size {t : ByteArray} (h : t.size <= 7990) : (sealS t).size = t.size + 4:=by
 rw [sealS_yes (by omega),ByteArray.size_append]
 rfl
theorem txRd_tx {ds : List Dd} (hok : txOk ds = true) : txRd (txS ds) = [ds]:=by
 obtain ⟨⟨h1,h2⟩,h⟩:=txOk_iff.1 hok
 have hsz:=txTo_size h ds.length (Nat.le_refl _)
 have hss:=putSeal_size (t:=txTo ds ds.length) (by omega)
 have hns:=numS_size ((sealS (txTo ds ds.length)).size : Int)
 have hrd : rdPart (sealS (txTo ds ds.length)) = ds:=by
  unfold rdPart
  rw [sealS_yes (by omega),open_seal (by omega)]
  rw [if_pos rfl]
  exact rdTx_tx hok
 have hne : ¬ rdPart (sealS (txTo ds ds.length)) = []:=by rw [hrd];intro e;rw [e] at h1;simp at h1
 rw [txS_yes hok,putTextS_short (by omega)]
 generalize hS : sealS (txTo ds ds.length) = S at *
 have hsz2 : (numS (S.size : Int) ++ S).size = (numS (S.size : Int)).size + S.size:=by rw [ByteArray.size_append]
 have hget : getT (numS (S.size : Int) ++ S) ((0 : Nat) : Int) = (S,(((numS (S.size : Int) ++ S).size : Nat) : Int),0):=by
  rw [getT_read (by omega)]
  have e:=txtS_mid ⟨#[]⟩ S ⟨#[]⟩ (by omega)
  rw [nil_append,cut_none _ _ rfl] at e
  rw [show (⟨#[]⟩ : ByteArray).size = 0 from rfl] at e
  have e2 : ((0 : Nat) : Int) + ((numS (S.size : Int)).size : Int) + (S.size : Int) = (((numS (S.size : Int) ++ S).size : Nat) : Int):=by rw [hsz2];omega
  rw [e,e2]
 have hget2 : ¬ (getT (numS (S.size : Int) ++ S) (((numS (S.size : Int) ++ S).size : Nat) : Int)).2.2 = 0:=by
  rw [getT_read (by omega)]
  have:=rd_short (s:=numS (S.size : Int) ++ S) (a:=(numS (S.size : Int) ++ S).size) (f:=9) (k:=0) (x:=0) (by omega)
  rw [txt_err this (by decide)]
  decide
 unfold txRd
 rw [txF_go hget hne,txF_no hget2,hrd]
theorem holds_pre {u : ByteArray} {k a : Nat} {l : List Int} (hk : k <= u.size) (h : HoldsL (u.extract 0 k) a l) : HoldsL u a l:=by
 intro i hi
 obtain ⟨h1,h2⟩:=h i hi
 rw [ByteArray.size_extract] at h1
 refine ⟨by omega,?_⟩
 rw [bt_piece hk (by omega),Nat.zero_add] at h2
 exact h2
theorem rdS_pre {u : ByteArray} {k a : Nat} {n p : Int} (hk : k <= u.size) (h : rdS (u.extract 0 k) a 10 0 0 = (n,p,0)) : rdS u a 10 0 0 = (n,p,0):=by
 obtain ⟨h1,h2,h3⟩:=back_num h
 have:=read_num h1 (holds_pre hk h2)
 rw [this,h3,numS_len]
theorem ex_pre {u : ByteArray} {k a b : Nat} (hk : k <= u.size) (hb : b <= k) : (u.extract 0 k).extract a b = u.extract a b:=by
 have hs : (u.extract 0 k).size = k:=by rw [ByteArray.size_extract];omega
 refine bt_ext (by simp only [ByteArray.size_extract];omega) (fun i hi => ?_)
 rw [ByteArray.size_extract,hs] at hi
 rw [bt_piece (by omega) (by omega),bt_piece hk (by omega),bt_piece (by omega) (by omega),Nat.zero_add]
theorem txtS_pre {u t : ByteArray} {k a : Nat} {p : Int} (hk : k <= u.size) (h : txtS (u.extract 0 k) a = (t,p,0)) : txtS u a = (t,p,0):=by
 have hs : (u.extract 0 k).size = k:=by rw [ByteArray.size_extract];omega
 obtain ⟨n,q,c,hr⟩ : ∃ n q c,rdS (u.extract 0 k) a 10 0 0 = (n,q,c):=⟨_,_,_,rfl⟩
 by_cases hc : c = 0
 · subst hc
   have hr2:=rdS_pre hk hr
   obtain ⟨_,_,hq⟩:=back_num hr
   by_cases hn : n < 0 ∨ 8000 < n
   · rw [txt_form hr hn] at h;simp at h
   · by_cases hl : ((u.extract 0 k).size : Int) < q + n
     · rw [txt_short hr hn hl] at h;simp at h
     · obtain ⟨n',rfl⟩ : ∃ n' : Nat,n = (n' : Int):=⟨n.toNat,by omega⟩
       obtain ⟨q',rfl⟩ : ∃ q' : Nat,q = (q' : Int):=⟨q.toNat,by omega⟩
       rw [txt_ok hr (by omega) (by omega)] at h
       rw [txt_ok hr2 (by omega) (by omega),<- ex_pre hk (by omega)]
       exact h
 · rw [txt_err hr hc] at h
   simp only [Prod.mk.injEq] at h
   exact absurd h.2.2 hc
theorem txtS_code {s : ByteArray} {a : Nat} (h : (txtS s a).2.2 = 0) : ∃ p : Nat,txtS s a = ((txtS s a).1,(p : Int),0):=by
 obtain ⟨t,p,c,e⟩ : ∃ t p c,txtS s a = (t,p,c):=⟨_,_,_,rfl⟩
 rw [e] at h
 simp only at h
 subst h
 obtain ⟨_,_,h0,_,_⟩:=back_text e
 exact ⟨p.toNat,by rw [e];simp only [Prod.mk.injEq,true_and,and_true];omega⟩
theorem txF_pre {u : ByteArray} {k : Nat} (hk : k <= u.size) (hu : u.size <= 8000) : ∀ (f f' p : Nat),f <= f' -> ∃ r,txF u f' p = txF (u.extract 0 k) f p ++ r
 | 0,f',p,_ => ⟨_,rfl⟩
 | f + 1,f',p,hf => by
  have hs : (u.extract 0 k).size = k:=by rw [ByteArray.size_extract];omega
  obtain ⟨g,rfl⟩ : ∃ g,f' = g + 1:=⟨f' - 1,by omega⟩
  by_cases hc : (txtS (u.extract 0 k) p).2.2 = 0
  · obtain ⟨p',he⟩:=txtS_code hc
    have he2:=txtS_pre hk he
    generalize (txtS (u.extract 0 k) p).1 = t at *
    have hg : getT (u.extract 0 k) (p : Int) = (t,(p' : Int),0):=by rw [getT_read (by omega)];exact he
    have hg2 : getT u (p : Int) = (t,(p' : Int),0):=by rw [getT_read (by omega)];exact he2
    by_cases hr : rdPart t = []
    · rw [txF_end (s:=u.extract 0 k) (by rw [hg];exact hr)]
      exact ⟨_,rfl⟩
    · obtain ⟨r,ih⟩:=txF_pre hk hu f g p' (by omega)
      rw [txF_go hg hr,txF_go hg2 hr,ih]
      exact ⟨r,rfl⟩
  · rw [txF_no (s:=u.extract 0 k) (by rw [getT_read (by omega)];exact hc)]
    exact ⟨_,rfl⟩
theorem txRd_pre {u : ByteArray} {k : Nat} (hk : k <= u.size) (hu : u.size <= 8000) : ∃ r,txRd u = txRd (u.extract 0 k) ++ r:=by
 unfold txRd
 exact txF_pre hk hu _ _ 0 (by rw [ByteArray.size_extract];omega)
theorem txRd_ok {s : ByteArray} : ∀ l ∈ txRd s,txOk l = true:=fun l hl => by
 obtain ⟨h1,h2,h3⟩:=txRd_right s l hl
 exact txOk_iff.2 ⟨⟨h1,h2⟩,h3⟩
theorem txS_some {ds : List Dd} (h : txOk ds = true) : txS ds ≠ ⟨#[]⟩:=by
 obtain ⟨⟨h1,h2⟩,hd⟩:=txOk_iff.1 h
 have hsz:=txTo_size hd ds.length (Nat.le_refl _)
 have hss:=putSeal_size (t:=txTo ds ds.length) (by omega)
 rw [txS_yes h,putTextS_short (by omega)]
 intro e
 have:=congrArg ByteArray.size e
 rw [ByteArray.size_append] at this
 have h3:=(numS_size ((sealS (txTo ds ds.length)).size : Int)).1
 rw [show (⟨#[]⟩ : ByteArray).size = 0 from rfl] at this
 omega
theorem txS_size (ds : List Dd) : (txS ds).size <= 24 + 200 * ds.length:=by
 by_cases h : txOk ds = true
 · obtain ⟨⟨h1,h2⟩,hd⟩:=txOk_iff.1 h
   have hsz:=txTo_size hd ds.length (Nat.le_refl _)
   have hss:=putSeal_size (t:=txTo ds ds.length) (by omega)
   rw [txS_yes h,putTextS_short (by omega),ByteArray.size_append]
   have h3:=(numS_size ((sealS (txTo ds ds.length)).size : Int)).2
   omega
 · rw [txS_no (by simpa using h)]
   exact Nat.zero_le _
end Go.Proofs.YtbgoldeopmlbnaaGreatDoor
namespace Go.Proofs.YtbgoldeopmlbnaaGreatDoor
open Go.RowKit Go.PlainAid G MGF IRow MNum
set_option linter.unusedVariables false
def SmallD (ds : List Dd) : Prop:=∀ t,t < ds.length -> (ds.getD t ddD).lk.size <= 20 /\ (ds.getD t ddD).nm.size <= 20 /\ (ds.getD t ddD).bd.size <= 20
theorem SmallD.nil : SmallD []:=fun t ht => absurd ht (by simp)
theorem SmallD.snoc {ds : List Dd} {d : Dd} (h : SmallD ds) (hd : d.lk.size <= 20 /\ d.nm.size <= 20 /\ d.bd.size <= 20) : SmallD (ds ++ [d]):=by
 intro t ht
 by_cases e : t < ds.length
 · rw [List.getD,List.getElem?_append_left e]
   exact h t e
 · obtain rfl : t = ds.length:=by simp at ht;omega
   rw [List.getD,List.getElem?_append_right (Nat.le_refl _),Nat.sub_self]
   exact hd
def SomeDeeds (w : World) (e : Ending) (w' : World) : Prop :=
 ∃ (a : Option Addr) (n c : Nat) (ds : List Dd),e = .returned (.slice a n c) /\ n <= 4 /\ DdR w' a n c ds /\ SmallD ds /\ Below w.heap.size w w'
theorem drawTxBytes_any (ao : Option Addr) (len cap : Nat) (w : World) (hC : CodeAt w ao len) (hl : len <= 1048576) :
 Calls Tryz.prog 5 #[.slice ao len cap] w (SomeDeeds w):=by
 obtain ⟨i0,hi,hz0,hz1,hz2⟩:=info_parts infoDeed
 go_enter Tryz.func5,Tryz.ntmps5
 go_wp2_with fail
 refine (source_any ao len cap w hC hl).mono ?_
 rintro e w1 ⟨p,rfl,hp,⟨cb,co,sl,sc,sa,hS⟩,hb1⟩
 have HB1:=qH hb1
 have hpl:=hS.lt
 have hcb:=hS.code
 obtain ⟨W,hW⟩ : ∃ W,W = w1.alloc (.cells #[] 34):=⟨_,rfl⟩
 have HO0:=qH (show W.ownsRow w1.heap.size 34 ddE.k (.slice (some ⟨w1.heap.size,0,none⟩) 0 0) 0 (ddE.flat []) by
  rw [hW]
  exact World.ownsRow_lit w1 #[] 0 (Nat.le_refl _) (by decide) (by simp))
 have HD0:=qH (show DrawnC w1 W p cb co sl sc sa by rw [hW];exact (DrawnC.refl hS).below ((Below.refl _ _).alloc (Nat.le_refl _) _))
 clear hb1 hS
 go_upto_region 3 with fail
 rw [<- hW]
 clear hW
 go_wp2_with fail
 refine (n_c p cb co sl sc sa 4 _ HD0.out.src (by omega)).mono ?_
 rintro e w2 ⟨r,rfl,r0,r1,hS1,hg,hz⟩
 have hr : r <= 3:=by omega
 have HD2:=qH (HD0.out.trans ⟨hS1,hg⟩)
 have HO2:=qH (own_drawn HO0.out hg hpl)
 clear r1 hS1 hg hz HD0 HO0
 go_wp2_with fail
 go_loopw [5,4] (fun i v wr => ∃ (k : Int) (lv : Value) (ds : List Dd),i = .int .i64 k /\ v = lv /\ 0 <= k /\ (ds.length : Int) + k <= 3 /\ Hid (wr.ownsRow w1.heap.size 34 ddE.k lv ds.length (ddE.flat ds)) /\ Hid (SmallD ds) /\ Hid (DrawnC w1 wr p cb co sl sc sa)) (fun i _ _ => (intOf i).toNat)
 case atStart => exact ⟨r,_,[],rfl,rfl,r0,by simpa using hr,HO2,qH SmallD.nil,HD2⟩
 case round =>
  clear HO2 HD2 r0 hr
  obtain ⟨k,lv,ds,rfl,rfl,hk0,hkl,HOR,HSM,HDR⟩:=hrel
  obtain ⟨an,cn,rfl⟩:=own_shape HOR.out
  by_cases hk : 0 < k
  · go_wp2_with fail
    refine (deedOf_c p cb co sl sc sa _ HDR.out.src).mono ?_
    rintro e w3 ⟨q0,q1,q2,q3,q4,q5,q6,q7,q8,q9,rfl,hq,hD⟩
    have HSQ:=qH (deedB_small hq)
    have hown:=own_drawn HOR.out hD.gr hpl
    have HO3:=qH hown
    have HD3:=qH (HDR.out.trans hD)
    have hszw : w1.heap.size <= w3.heap.size:=HD3.out.gr.size
    have hn1 : ds.length <= 1048576:=by omega
    have hwk : IntKind.i64.wrap (k - 1) = k - 1:=IntWalk.i64_in _ (by omega)
    clear hq hD HOR HDR
    go_wp2_with (at_builtin;refine append_enc ddE rfl (.tmp 15) (.tmp 18) 37 rfl 34 i0 _ 104 Tryz.underlying37 hi hz0 hz1 hz2 (by rfl) (by decide) (by decide) w1.heap.size (.slice an ds.length cn) ds.length ds (by rfl) hown ⟨q0,q1,q2,q3,q4,q5,q6,q7,q8,q9⟩ _ (by rfl) _ (by rfl) hszw hn1 ?_;intro v' w7 hown7 hg7 _;have HO7:=qH hown7;have HD7:=qH (HD3.out.row hpl hcb hg7 (fun g hg => (HO3.out.lt g hg).1));clear hown7 hg7 hown)
    go_roundw
    case rel => exact ⟨k - 1,v',ds ++ [⟨q0,q1,q2,q3,q4,q5,q6,q7,q8,q9⟩],rfl,rfl,by omega,by simp;omega,qH (by simpa using HO7.out),qH (HSM.out.snoc HSQ.out),HD7⟩
    case measure => simp [intOf];omega
  · have hkz : k = 0:=by omega
    subst hkz
    go_wp2_with fail
    refine (one_c p cb co sl sc sa 8 _ HDR.out.src (by omega)).mono ?_
    rintro e w3 ⟨b,rfl,hD,_⟩
    have hown:=own_drawn HOR.out hD.gr hpl
    have HO3:=qH hown
    have HD3:=qH (HDR.out.trans hD)
    clear hD HOR HDR
    cases b
    · have HBF:=qH (below_drawn HB1.out (Nat.le_refl _) hp HD3.out.drawn)
      go_wp2_with fail
      go_ret
      exact ⟨_,_,_,_,rfl,by omega,DdR.own HO3.out,HSM.out,HBF.out⟩
    · go_wp2_with fail
      refine (deed_c p cb co sl sc sa _ HD3.out.src).mono ?_
      rintro e w4 ⟨q0,q1,q2,q3,q4,q5,q6,q7,q8,q9,rfl,hq,hD⟩
      have HSQ:=qH hq
      have hown4:=own_drawn HO3.out hD.gr hpl
      have HO4:=qH hown4
      have HD4:=qH (HD3.out.trans hD)
      have hszw : w1.heap.size <= w4.heap.size:=HD4.out.gr.size
      have hn1 : ds.length <= 1048576:=by omega
      clear hq hD hown HO3 HD3
      go_wp2_with (at_builtin;refine append_enc ddE rfl (.tmp 22) (.tmp 25) 37 rfl 34 i0 _ 104 Tryz.underlying37 hi hz0 hz1 hz2 (by rfl) (by decide) (by decide) w1.heap.size (.slice an ds.length cn) ds.length ds (by rfl) hown4 ⟨q0,q1,q2,q3,q4,q5,q6,q7,q8,q9⟩ _ (by rfl) _ (by rfl) hszw hn1 ?_;intro v' w7 hown7 hg7 _;have HO7:=qH hown7;have HD7:=qH (HD4.out.row hpl hcb hg7 (fun g hg => (HO4.out.lt g hg).1));clear hown7 hg7 hown4)
      obtain ⟨a7,c7,rfl⟩:=own_shape HO7.out
      have HBF:=qH (below_drawn HB1.out (Nat.le_refl _) hp HD7.out.drawn)
      go_ret
      exact ⟨_,_,_,ds ++ [⟨q0,q1,q2,q3,q4,q5,q6,q7,q8,q9⟩],rfl,by omega,DdR.own HO7.out,HSM.out.snoc HSQ.out,HBF.out⟩
theorem drawWord_any (ao : Option Addr) (len cap : Nat) (w : World) (hC : CodeAt w ao len) (hl : len <= 1048576) :
 Calls Tryz.prog 11 #[.slice ao len cap] w fun e w' => ∃ x : ByteArray,e = .returned (.string x) /\ x.size <= 20 /\ Below w.heap.size w w':=by
 go_enter Tryz.func11,Tryz.ntmps11
 go_wp2_with fail
 refine (source_any ao len cap w hC hl).mono ?_
 rintro e w1 ⟨p,rfl,hp,⟨cb,co,sl,sc,sa,hS⟩,hb1⟩
 have HB1:=qH hb1
 have HS1:=qH hS
 clear hb1 hS
 go_wp2_with fail
 refine (pickL_c p cb co sl sc sa w1 [⟨#[97]⟩,⟨#[97,98,99,100,101,102,103,104]⟩,⟨#[97,98,99,100,101,102,103,104,105]⟩,⟨#[]⟩,⟨#[65]⟩,⟨#[100,111,103]⟩] _ HS1.out (by decide) (by decide)).mono ?_
 rintro e w2 ⟨⟨x,hx,rfl⟩,hD⟩
 have HX : Hid (x.size <= 20):=qH (by
  simp only [List.mem_cons,List.not_mem_nil,or_false] at hx
  rcases hx with rfl | rfl | rfl | rfl | rfl | rfl <;> decide)
 have HBF:=qH (below_drawn HB1.out (Nat.le_refl _) hp hD.drawn)
 clear hx hD
 go_wp2_with fail
 go_ret
 exact ⟨_,rfl,HX.out,HBF.out⟩
def SomeBookR (w : World) (p cb co sl sc : Nat) (sa : Option Addr) (e : Ending) (w' : World) : Prop :=
 ∃ (b : Bk) (a1 : Option Addr) (n1 a3 : Nat) (a2 : Option Addr) (n2 a4 : Nat),e = .returned (.agg #[.int .i64 b.c0,.int .i64 b.c1,.int .i64 b.c2,.int .i64 b.c3,.slice a1 n1 a3,.slice a2 n2 a4]) /\ bookB b = true /\ BkO w' w.heap.size a1 n1 a3 a2 n2 a4 b.ts b.is /\ DrawnC w w' p cb co sl sc sa
theorem BkO.nil (w : World) (base : Nat) : BkO w base none 0 0 none 0 0 [] []:=⟨World.ownsRow_nil _ _ _ _,World.ownsRow_nil _ _ _ _⟩
theorem BkO.drawn {w w' : World} {base p : Nat} {a1 a2 : Option Addr} {n1 a3 n2 a4 : Nat} {ts : List Tm} {is : List Im} (h : BkO w base a1 n1 a3 a2 n2 a4 ts is) (hg : w.grownBy w' (some p)) (hp : p < base) : BkO w' base a1 n1 a3 a2 n2 a4 ts is :=
 ⟨own_drawn h.t hg hp,own_drawn h.i hg hp⟩
def Far (a1 : Option Addr) (n1 a3 : Nat) (a2 : Option Addr) (n2 a4 : Nat) (g : Nat) : Prop:=(∀ q,(Value.slice a1 n1 a3).ownBlock = some q -> q ≠ g) /\ ∀ q,(Value.slice a2 n2 a4).ownBlock = some q -> q ≠ g
theorem BkO.far {w : World} {base : Nat} {a1 a2 : Option Addr} {n1 a3 n2 a4 : Nat} {ts : List Tm} {is : List Im} (h : BkO w base a1 n1 a3 a2 n2 a4 ts is) {g : Nat} (hg : g < base) : Far a1 n1 a3 a2 n2 a4 g :=
 ⟨fun q hq e => by have:=(h.t.lt q hq).1;omega,fun q hq e => by have:=(h.i.lt q hq).1;omega⟩
theorem BkO.far2 {w : World} {base : Nat} {a1 a2 : Option Addr} {n1 a3 n2 a4 : Nat} {ts : List Tm} {is : List Im} (h : BkO w base a1 n1 a3 a2 n2 a4 ts is) {g : Nat} (hg : w.heap.size <= g) : Far a1 n1 a3 a2 n2 a4 g :=
 ⟨fun q hq e => by have:=(h.t.lt q hq).2;omega,fun q hq e => by have:=(h.i.lt q hq).2;omega⟩
theorem own_grownF {w w' : World} {base : Nat} {e : TypeId} {size : Nat} {v : Value} {n : Nat} {xs : List Value} (h : w.ownsRow base e size v n xs) {g : Nat} (hg : w.grownBy w' (some g)) (hne : ∀ q,v.ownBlock = some q -> q ≠ g) : w'.ownsRow base e size v n xs:=by
 refine h.kept hg ?_
 cases hv : v.ownBlock with
 | none => exact .inl rfl
 | some q => exact .inr (fun h2 => by have:=hne q hv;simp only [Option.some.injEq] at h2;exact this h2)
theorem BkO.grownF {w w' : World} {base : Nat} {a1 a2 : Option Addr} {n1 a3 n2 a4 : Nat} {ts : List Tm} {is : List Im} (h : BkO w base a1 n1 a3 a2 n2 a4 ts is) {g : Nat} (hg : w.grownBy w' (some g)) (hf : Far a1 n1 a3 a2 n2 a4 g) : BkO w' base a1 n1 a3 a2 n2 a4 ts is :=
 ⟨own_grownF h.t hg hf.1,own_grownF h.i hg hf.2⟩
structure BState (w u : World) (p cb co sl sc : Nat) (sa : Option Addr) (h : Nat) (b : Bk) (a1 : Option Addr) (n1 a3 : Nat) (a2 : Option Addr) (n2 a4 : Nat) : Prop where
 z : BoxC u h [.int .i64 0,.int .i64 0,.int .i64 0,.int .i64 0,.slice none 0 0,.slice none 0 0]
 x : BoxC u (h + 1) [.int .i64 b.c0,.int .i64 b.c1,.int .i64 b.c2,.int .i64 b.c3,.slice a1 n1 a3,.slice a2 n2 a4]
 o : BkO u (w.heap.size + 2) a1 n1 a3 a2 n2 a4 b.ts b.is
 d : DrawnC w u p cb co sl sc sa
theorem BState.below {w u u' : World} {p cb co sl sc : Nat} {sa : Option Addr} {h : Nat} {b : Bk} {a1 : Option Addr} {n1 a3 : Nat} {a2 : Option Addr} {n2 a4 : Nat} (s : BState w u p cb co sl sc sa h b a1 n1 a3 a2 n2 a4) (hb : Below u.heap.size u u') : BState w u' p cb co sl sc sa h b a1 n1 a3 a2 n2 a4 :=
 ⟨s.z.below hb,s.x.below hb,s.o.below hb,s.d.below hb⟩
theorem BState.drawn {w u u' : World} {p cb co sl sc : Nat} {sa : Option Addr} {h : Nat} {b : Bk} {a1 : Option Addr} {n1 a3 : Nat} {a2 : Option Addr} {n2 a4 : Nat} (s : BState w u p cb co sl sc sa h b a1 n1 a3 a2 n2 a4) (hD : DrawnC u u' p cb co sl sc sa) (h1 : some h ≠ some p) (h2 : some (h + 1) ≠ some p) (hp : p < w.heap.size + 2) : BState w u' p cb co sl sc sa h b a1 n1 a3 a2 n2 a4 :=
 ⟨s.z.grown hD.gr h1,s.x.grown hD.gr h2,s.o.drawn hD.gr hp,s.d.trans hD⟩
theorem BState.put {w u u' : World} {p cb co sl sc : Nat} {sa : Option Addr} {h nb : Nat} {b : Bk} {a1 : Option Addr} {n1 a3 : Nat} {a2 : Option Addr} {n2 a4 : Nat} (s : BState w u p cb co sl sc sa h b a1 n1 a3 a2 n2 a4) (hg : u.grownBy u' (some nb)) (hf : Far a1 n1 a3 a2 n2 a4 nb) (hnb : w.heap.size + 2 <= nb) (hh : h + 1 < w.heap.size + 2) (hp : p < w.heap.size) (hcb : 0 < sl -> cb < w.heap.size) : BState w u' p cb co sl sc sa h b a1 n1 a3 a2 n2 a4 :=
 ⟨s.z.grown hg (by simp only [ne_eq,Option.some.injEq];omega),s.x.grown hg (by simp only [ne_eq,Option.some.injEq];omega),s.o.grownF hg hf,s.d.row hp hcb hg (fun k hk => by cases hk;omega)⟩
theorem fieldBook (c0 c1 c2 c3 cd : Int) (a1 : Option Addr) (n1 a3 : Nat) (a2 : Option Addr) (n2 a4 : Nat) (w : World) : (Instr.field 46 (.agg #[.int .i64 c0,.int .i64 c1,.int .i64 c2,.int .i64 c3,.slice a1 n1 a3,.slice a2 n2 a4,.int .i64 cd]) 0).run Tryz.prog w = .ok (.agg #[.int .i64 c0,.int .i64 c1,.int .i64 c2,.int .i64 c3,.slice a1 n1 a3,.slice a2 n2 a4]) w:=by kernel_rfl
theorem doS_book {b : Bk} {d : Dd} (hb : bookB b = true) (hd : deedOf d = true) (hc : (doS b d).2 = 0) : bookB (doS b d).1 = true:=bookB_right (doS_right hb hd hc)
theorem bookOf_c (p cb co sl sc : Nat) (sa : Option Addr) (w : World) (hS : SrcC w p cb co sl sc sa) :
 Calls Tryz.prog 61 #[.pointer (some ⟨p,0,none⟩)] w (SomeBookR w p cb co sl sc sa):=by
 have hp:=hS.lt
 have hcb:=hS.code
 obtain ⟨W,hW⟩ : ∃ W,W = (w.alloc (.cells #[.int .i64 0,.int .i64 0,.int .i64 0,.int .i64 0,.slice none 0 0,.slice none 0 0] 28)).alloc (.cells #[.int .i64 0,.int .i64 0,.int .i64 0,.int .i64 0,.slice none 0 0,.slice none 0 0] 28):=⟨_,rfl⟩
 obtain ⟨h,hh⟩ : ∃ h,h = w.heap.size:=⟨_,rfl⟩
 have HWZ:=qH (show W.heap.size = w.heap.size + 2 by rw [hW,World.size_alloc,World.size_alloc])
 have HS0:=qH (show BState w W p cb co sl sc sa h bk0 none 0 0 none 0 0 by
  rw [hW,hh]
  refine ⟨(BoxC.made _ _ _).alloc _,?_,BkO.nil _ _,((DrawnC.refl hS).below ((Below.refl _ _).alloc (Nat.le_refl _) _)).below ((Below.refl _ _).alloc (Nat.le_refl _) _)⟩
  have:=BoxC.made (w.alloc (.cells #[.int .i64 0,.int .i64 0,.int .i64 0,.int .i64 0,.slice none 0 0,.slice none 0 0] 28)) #[.int .i64 0,.int .i64 0,.int .i64 0,.int .i64 0,.slice none 0 0,.slice none 0 0] 28
  rwa [World.size_alloc] at this)
 have hne : some h ≠ some p:=by simp only [ne_eq,Option.some.injEq];omega
 have hne2 : some (h + 1) ≠ some p:=by simp only [ne_eq,Option.some.injEq];omega
 have hhw : w.heap.size <= h:=by omega
 have hh1w : w.heap.size <= h + 1:=by omega
 have hhb : h < w.heap.size + 2:=by omega
 have hhb2 : h + 1 < w.heap.size + 2:=by omega
 have hpb : p < w.heap.size + 2:=by omega
 clear hS
 go_enter Tryz.func61,Tryz.ntmps61
 go_upto_region 2 with fail
 rw [<- hW,<- hh]
 clear hW hh
 go_wp2_with fail
 refine (one_c p cb co sl sc sa 8 _ HS0.out.d.src (by omega)).mono ?_
 rintro e w1 ⟨bb,rfl,hD,_⟩
 have HS1:=qH (HS0.out.drawn hD hne hne2 hpb)
 have HSZ:=qH (show w.heap.size + 2 <= w1.heap.size by have:=hD.gr.size;have:=HWZ.out;omega)
 clear hD HS0 HWZ
 cases bb
 · skip
   go_upto_region 4 with fail
   go_wp2_with (first | (refine list_load HS1.out.x 28 _ 6 rfl rfl rfl rfl (by kernel_rfl) ?_;simp only [pS,List.set]))
   refine (l07Do_any 0 0 0 0 [] [] 1 1 2 3 5 0 ⟨#[]⟩ ⟨#[]⟩ 0 ⟨#[]⟩ none none 0 0 0 0 w1 (BkO.nil w1 0).read bookB_bk0 (by decide)).mono ?_
   rintro e w2 ⟨a1,n1,a3,a2,n2,a4,rfl,ho,hb⟩
   obtain ⟨b,hbk⟩ : ∃ b,b = (doS ⟨0,0,0,0,[],[]⟩ ⟨1,1,2,3,5,0,⟨#[]⟩,⟨#[]⟩,0,⟨#[]⟩⟩).1:=⟨_,rfl⟩
   have HBB:=qH (show bookB b = true by rw [hbk];decide)
   rw [<- hbk] at ho
   generalize (doS ⟨0,0,0,0,[],[]⟩ ⟨1,1,2,3,5,0,⟨#[]⟩,⟨#[]⟩,0,⟨#[]⟩⟩).2 = cd at *
   rw [<- hbk]
   have HO2:=qH (ho.mono HSZ.out)
   have HS2:=qH (HS1.out.below hb)
   clear hbk ho hb HS1
   obtain ⟨vl,hvl⟩ : ∃ vl : List Value,vl = [.int .i64 b.c0,.int .i64 b.c1,.int .i64 b.c2,.int .i64 b.c3,.slice a1 n1 a3,.slice a2 n2 a4]:=⟨_,rfl⟩
   have HVE:=qH hvl
   have HVL:=qH (show vl.length = 6 by rw [hvl];rfl)
   have HVO:=qH (show vl.all (·.oneCell') = true by rw [hvl];rfl)
   clear hvl
   have hgr:=setCells_grown (h + 1) vl 0 w2
   have HS3:=qH (show BState w (w2.setCells (h + 1) 0 vl) p cb co sl sc sa h b a1 n1 a3 a2 n2 a4 from ⟨HS2.out.z.grown hgr (by simp),by rw [<- HVE.out];exact box_setCells HS2.out.x vl HVL.out,HO2.out.grownF hgr (HO2.out.far hhb2),HS2.out.d.row hp hcb hgr (fun k hk => by cases hk;exact hh1w)⟩)
   clear hgr HO2
   have hfl:=fieldBook b.c0 b.c1 b.c2 b.c3 cd a1 n1 a3 a2 n2 a4
   go_upto_region 5 with (first | (refine list_store (vs:=vl) HS2.out.x 28 _ _ 6 rfl rfl rfl (by rw [HVE.out];rfl) rfl HVL.out HVO.out (by kernel_rfl) ?_;simp only [pN]))
   generalize w2.setCells (h + 1) 0 vl = W3 at *
   clear HVE HVL HVO HS2
   go_wp2_with fail
   refine (n_c p cb co sl sc sa 14 _ HS3.out.d.src (by omega)).mono ?_
   rintro e w4 ⟨r,rfl,r0,r1,hS1,hg,hz⟩
   have hr : r <= 13:=by omega
   have HS4:=qH (HS3.out.drawn ⟨hS1,hg⟩ hne hne2 hpb)
   clear r1 hS1 hg hz HS3
   go_wp2_with fail
   go_loopw [4] (fun i wr => ∃ (k : Int) (b : Bk) (a1 : Option Addr) (n1 a3 : Nat) (a2 : Option Addr) (n2 a4 : Nat),i = .int .i64 k /\ 0 <= k /\ k <= 13 /\ Hid (bookB b = true) /\ Hid (BState w wr p cb co sl sc sa h b a1 n1 a3 a2 n2 a4)) (fun i _ => (intOf i).toNat)
   case atStart => exact ⟨r,b,a1,n1,a3,a2,n2,a4,rfl,r0,hr,HBB,HS4⟩
   case round =>
    clear HS4 HBB r0 hr HSZ
    obtain ⟨k,b,a1,n1,a3,a2,n2,a4,rfl,hk0,hk13,HBB,HST⟩:=hrel
    by_cases hk : 0 < k
    · have hwk : IntKind.i64.wrap (k - 1) = k - 1:=IntWalk.i64_in _ (by omega)
      have hmx : Tryz.prog.follows .mixedOrders = true:=by kernel_rfl
      have hbb : bookB ⟨b.c0,b.c1,b.c2,b.c3,b.ts,b.is⟩ = true:=HBB.out
      go_upto_region 8 with fail
      go_cut [5] from 21 to 24 (fun v u => ∃ (nb : Nat) (b2 : Bk) (cd : Int) (e1 : Option Addr) (p1 e3 : Nat) (e2 : Option Addr) (p2 e4 : Nat),v = .pointer (some ⟨nb,0,none⟩) /\ BoxC u nb [.int .i64 b2.c0,.int .i64 b2.c1,.int .i64 b2.c2,.int .i64 b2.c3,.slice e1 p1 e3,.slice e2 p2 e4,.int .i64 cd] /\ BkO u (w.heap.size + 2) e1 p1 e3 e2 p2 e4 b2.ts b2.is /\ (cd = 0 -> bookB b2 = true) /\ BState w u p cb co sl sc sa h b a1 n1 a3 a2 n2 a4)
      case first =>
       refine TillZ.region (t:=5) hmx (fun u => BState w u p cb co sl sc sa h b a1 n1 a3 a2 n2 a4) ?_
       have HSu0:=qH (HST.out.below (Below.refl wr.heap.size wr).drew)
       refine TillZ.take4 (i:=0) (v:=.agg #[.int .i64 b.c0,.int .i64 b.c1,.int .i64 b.c2,.int .i64 b.c3,.slice a1 n1 a3,.slice a2 n2 a4]) rfl rfl rfl (by kernel_rfl) HSu0.out (fun u hu => exec_load hu.x 28 _ 6 rfl rfl rfl (by kernel_rfl)) ?_
       simp only [pS,List.set,zT,zZ]
       refine TillZ.take4 (i:=1) (v:=.pointer (some ⟨p,0,none⟩)) rfl rfl rfl (by kernel_rfl) HSu0.out (fun u hu => by go_simp) ?_
       simp only [pS,List.set,zT,zZ,zU]
       generalize hu0 : wr.drew = u0 at *
       clear hu0 HST
       refine TillZ.two (i:=2) (j:=4) (by kernel_rfl) ?_ ?_
       · skip
         refine TillZ.callz (i:=2) (f:=29) (args:=#[.pointer (some ⟨p,0,none⟩)]) rfl rfl rfl (by go_simp) ?_
         refine Calls.mono (deedOf_c p cb co sl sc sa u0 HSu0.out.d.src) ?_
         rintro e ua ⟨q0,q1,q2,q3,q4,q5,q6,q7,q8,q9,rfl,hq,hD⟩
         have HSua:=qH (HSu0.out.drawn hD hne hne2 hpb)
         have HQ:=qH hq
         clear hq hD HSu0
         refine ⟨_,rfl,HSua.out,?_⟩
         simp only [pS,List.set,zT,zZ,zU]
         refine TillZ.two (i:=3) (j:=4) (by kernel_rfl) ?_ ?_
         · skip
           refine TillZ.callz (i:=3) (f:=46) (args:=#[.agg #[.int .i64 b.c0,.int .i64 b.c1,.int .i64 b.c2,.int .i64 b.c3,.slice a1 n1 a3,.slice a2 n2 a4],.agg #[.int .i64 q0,.int .i64 q1,.int .i64 q2,.int .i64 q3,.int .i64 q4,.int .i64 q5,.string q6,.string q7,.int .i64 q8,.string q9]]) rfl rfl rfl (by go_simp) ?_
           refine Calls.mono (l07Do_any b.c0 b.c1 b.c2 b.c3 b.ts b.is q0 q1 q2 q3 q4 q5 q6 q7 q8 q9 a1 a2 n1 n2 a3 a4 ua HSua.out.o.read hbb HQ.out) ?_
           rintro e ub ⟨e1,p1,e3,e2,p2,e4,rfl,ho,hb⟩
           have HR : Hid ((doS ⟨b.c0,b.c1,b.c2,b.c3,b.ts,b.is⟩ ⟨q0,q1,q2,q3,q4,q5,q6,q7,q8,q9⟩).2 = 0 -> bookB (doS ⟨b.c0,b.c1,b.c2,b.c3,b.ts,b.is⟩ ⟨q0,q1,q2,q3,q4,q5,q6,q7,q8,q9⟩).1 = true):=qH (doS_book hbb HQ.out)
           generalize (doS ⟨b.c0,b.c1,b.c2,b.c3,b.ts,b.is⟩ ⟨q0,q1,q2,q3,q4,q5,q6,q7,q8,q9⟩).1 = b2 at *
           generalize (doS ⟨b.c0,b.c1,b.c2,b.c3,b.ts,b.is⟩ ⟨q0,q1,q2,q3,q4,q5,q6,q7,q8,q9⟩).2 = cd at *
           have HSub:=qH (HSua.out.below hb)
           have HOub:=qH (ho.mono (show w.heap.size + 2 <= ua.heap.size by have:=HSua.out.x.lt;omega))
           clear ho hb HSua
           refine ⟨_,rfl,HSub.out,?_⟩
           simp only [pS,List.set,zT,zZ,zU]
           refine TillZ.one (i:=4) (by kernel_rfl) ?_
           refine TillZ.opz (i:=4) (v:=.pointer (some ⟨ub.heap.size,0,none⟩)) (w':=ub.alloc (.cells #[.int .i64 0,.int .i64 0,.int .i64 0,.int .i64 0,.slice none 0 0,.slice none 0 0,.int .i64 0] 46)) rfl rfl rfl (by go_simp) (HSub.out.below ((Below.refl _ _).alloc (Nat.le_refl _) _)) ?_
           simp only [pS,List.set,zT,zZ,zU]
           have HSuc:=qH (HSub.out.below ((Below.refl _ _).alloc (Nat.le_refl _) (.cells #[.int .i64 0,.int .i64 0,.int .i64 0,.int .i64 0,.slice none 0 0,.slice none 0 0,.int .i64 0] 46)))
           have HXuc:=qH (BoxC.made ub #[.int .i64 0,.int .i64 0,.int .i64 0,.int .i64 0,.slice none 0 0,.slice none 0 0,.int .i64 0] 46)
           have HFO:=qH (HSub.out.o.far2 (Nat.le_refl _))
           have hnb : w.heap.size + 2 <= ub.heap.size:=by have:=HSub.out.x.lt;omega
           have hnp : some ub.heap.size ≠ some p:=by simp only [ne_eq,Option.some.injEq];omega
           have HOuc:=qH (HOub.out.below ((Below.refl _ _).alloc (Nat.le_refl _) (.cells #[.int .i64 0,.int .i64 0,.int .i64 0,.int .i64 0,.slice none 0 0,.slice none 0 0,.int .i64 0] 46)))
           have HFN:=qH (HOub.out.far2 (Nat.le_refl _))
           generalize ub.alloc (.cells #[.int .i64 0,.int .i64 0,.int .i64 0,.int .i64 0,.slice none 0 0,.slice none 0 0,.int .i64 0] 46) = uc at *
           generalize ub.heap.size = nb at *
           clear HSub
           obtain ⟨vl,hvl⟩ : ∃ vl : List Value,vl = [.int .i64 b2.c0,.int .i64 b2.c1,.int .i64 b2.c2,.int .i64 b2.c3,.slice e1 p1 e3,.slice e2 p2 e4,.int .i64 cd]:=⟨_,rfl⟩
           have HVE:=qH hvl
           have HVL:=qH (show vl.length = 7 by rw [hvl];rfl)
           have HVO:=qH (show vl.all (·.oneCell') = true by rw [hvl];rfl)
           clear hvl
           have hgr:=setCells_grown nb vl 0 uc
           have HSF:=qH (HSuc.out.put hgr HFO.out hnb hhb2 hp hcb)
           have HOF:=qH (HOuc.out.grownF hgr HFN.out)
           have HXF:=qH (show BoxC (uc.setCells nb 0 vl) nb [.int .i64 b2.c0,.int .i64 b2.c1,.int .i64 b2.c2,.int .i64 b2.c3,.slice e1 p1 e3,.slice e2 p2 e4,.int .i64 cd] by rw [<- HVE.out];exact box_setCells HXuc.out vl HVL.out)
           clear hgr
           refine TillZ.hand_skip (w':=uc.setCells nb 0 vl) (by kernel_rfl) rfl rfl (exec_store HXuc.out 46 (.tmp 5) (.tmp 24) 7 rfl rfl (by rw [HVE.out];rfl) rfl HVL.out HVO.out (by kernel_rfl)) ?_
           simp only [pN,zT,zZ,zU]
           refine TillZ.any_done (by kernel_rfl) ?_ _
           generalize uc.setCells nb 0 vl = Y at *
           go_wp2_with fail
           go_meet
           exact ⟨nb,b2,cd,e1,p1,e3,e2,p2,e4,rfl,HXF.out,HOF.out,HR.out,HSF.out⟩
         · skip
           refine TillZ.opz (i:=4) (v:=.pointer (some ⟨ua.heap.size,0,none⟩)) (w':=ua.alloc (.cells #[.int .i64 0,.int .i64 0,.int .i64 0,.int .i64 0,.slice none 0 0,.slice none 0 0,.int .i64 0] 46)) rfl rfl rfl (by go_simp) (HSua.out.below ((Below.refl _ _).alloc (Nat.le_refl _) _)) ?_
           simp only [pS,List.set,zT,zZ,zU]
           have HSub:=qH (HSua.out.below ((Below.refl _ _).alloc (Nat.le_refl _) (.cells #[.int .i64 0,.int .i64 0,.int .i64 0,.int .i64 0,.slice none 0 0,.slice none 0 0,.int .i64 0] 46)))
           have HXub:=qH (BoxC.made ua #[.int .i64 0,.int .i64 0,.int .i64 0,.int .i64 0,.slice none 0 0,.slice none 0 0,.int .i64 0] 46)
           have HFO:=qH (HSua.out.o.far2 (Nat.le_refl _))
           have hnb : w.heap.size + 2 <= ua.heap.size:=by have:=HSua.out.x.lt;omega
           have hnp : some ua.heap.size ≠ some p:=by simp only [ne_eq,Option.some.injEq];omega
           generalize ua.alloc (.cells #[.int .i64 0,.int .i64 0,.int .i64 0,.int .i64 0,.slice none 0 0,.slice none 0 0,.int .i64 0] 46) = ub at *
           generalize ua.heap.size = nb at *
           clear HSua
           refine TillZ.one (i:=3) (by kernel_rfl) ?_
           refine TillZ.callz (i:=3) (f:=46) (args:=#[.agg #[.int .i64 b.c0,.int .i64 b.c1,.int .i64 b.c2,.int .i64 b.c3,.slice a1 n1 a3,.slice a2 n2 a4],.agg #[.int .i64 q0,.int .i64 q1,.int .i64 q2,.int .i64 q3,.int .i64 q4,.int .i64 q5,.string q6,.string q7,.int .i64 q8,.string q9]]) rfl rfl rfl (by go_simp) ?_
           refine Calls.mono (l07Do_any b.c0 b.c1 b.c2 b.c3 b.ts b.is q0 q1 q2 q3 q4 q5 q6 q7 q8 q9 a1 a2 n1 n2 a3 a4 ub HSub.out.o.read hbb HQ.out) ?_
           rintro e uc ⟨e1,p1,e3,e2,p2,e4,rfl,ho,hb⟩
           have HR : Hid ((doS ⟨b.c0,b.c1,b.c2,b.c3,b.ts,b.is⟩ ⟨q0,q1,q2,q3,q4,q5,q6,q7,q8,q9⟩).2 = 0 -> bookB (doS ⟨b.c0,b.c1,b.c2,b.c3,b.ts,b.is⟩ ⟨q0,q1,q2,q3,q4,q5,q6,q7,q8,q9⟩).1 = true):=qH (doS_book hbb HQ.out)
           generalize (doS ⟨b.c0,b.c1,b.c2,b.c3,b.ts,b.is⟩ ⟨q0,q1,q2,q3,q4,q5,q6,q7,q8,q9⟩).1 = b2 at *
           generalize (doS ⟨b.c0,b.c1,b.c2,b.c3,b.ts,b.is⟩ ⟨q0,q1,q2,q3,q4,q5,q6,q7,q8,q9⟩).2 = cd at *
           have HSuc:=qH (HSub.out.below hb)
           have HOuc:=qH (ho.mono (show w.heap.size + 2 <= ub.heap.size by have:=HSub.out.x.lt;omega))
           have HXuc:=qH (HXub.out.below hb)
           have HFN:=qH (ho.far HXub.out.lt)
           clear ho hb HSub
           refine ⟨_,rfl,HSuc.out,?_⟩
           simp only [pS,List.set,zT,zZ,zU]
           obtain ⟨vl,hvl⟩ : ∃ vl : List Value,vl = [.int .i64 b2.c0,.int .i64 b2.c1,.int .i64 b2.c2,.int .i64 b2.c3,.slice e1 p1 e3,.slice e2 p2 e4,.int .i64 cd]:=⟨_,rfl⟩
           have HVE:=qH hvl
           have HVL:=qH (show vl.length = 7 by rw [hvl];rfl)
           have HVO:=qH (show vl.all (·.oneCell') = true by rw [hvl];rfl)
           clear hvl
           have hgr:=setCells_grown nb vl 0 uc
           have HSF:=qH (HSuc.out.put hgr HFO.out hnb hhb2 hp hcb)
           have HOF:=qH (HOuc.out.grownF hgr HFN.out)
           have HXF:=qH (show BoxC (uc.setCells nb 0 vl) nb [.int .i64 b2.c0,.int .i64 b2.c1,.int .i64 b2.c2,.int .i64 b2.c3,.slice e1 p1 e3,.slice e2 p2 e4,.int .i64 cd] by rw [<- HVE.out];exact box_setCells HXuc.out vl HVL.out)
           clear hgr
           refine TillZ.hand_skip (w':=uc.setCells nb 0 vl) (by kernel_rfl) rfl rfl (exec_store HXuc.out 46 (.tmp 5) (.tmp 24) 7 rfl rfl (by rw [HVE.out];rfl) rfl HVL.out HVO.out (by kernel_rfl)) ?_
           simp only [pN,zT,zZ,zU]
           refine TillZ.any_done (by kernel_rfl) ?_ _
           generalize uc.setCells nb 0 vl = Y at *
           go_wp2_with fail
           go_meet
           exact ⟨nb,b2,cd,e1,p1,e3,e2,p2,e4,rfl,HXF.out,HOF.out,HR.out,HSF.out⟩
       · skip
         refine TillZ.opz (i:=4) (v:=.pointer (some ⟨u0.heap.size,0,none⟩)) (w':=u0.alloc (.cells #[.int .i64 0,.int .i64 0,.int .i64 0,.int .i64 0,.slice none 0 0,.slice none 0 0,.int .i64 0] 46)) rfl rfl rfl (by go_simp) (HSu0.out.below ((Below.refl _ _).alloc (Nat.le_refl _) _)) ?_
         simp only [pS,List.set,zT,zZ,zU]
         have HSua:=qH (HSu0.out.below ((Below.refl _ _).alloc (Nat.le_refl _) (.cells #[.int .i64 0,.int .i64 0,.int .i64 0,.int .i64 0,.slice none 0 0,.slice none 0 0,.int .i64 0] 46)))
         have HXua:=qH (BoxC.made u0 #[.int .i64 0,.int .i64 0,.int .i64 0,.int .i64 0,.slice none 0 0,.slice none 0 0,.int .i64 0] 46)
         have HFO:=qH (HSu0.out.o.far2 (Nat.le_refl _))
         have hnb : w.heap.size + 2 <= u0.heap.size:=by have:=HSu0.out.x.lt;omega
         have hnp : some u0.heap.size ≠ some p:=by simp only [ne_eq,Option.some.injEq];omega
         generalize u0.alloc (.cells #[.int .i64 0,.int .i64 0,.int .i64 0,.int .i64 0,.slice none 0 0,.slice none 0 0,.int .i64 0] 46) = ua at *
         generalize u0.heap.size = nb at *
         clear HSu0
         refine TillZ.one (i:=2) (by kernel_rfl) ?_
         refine TillZ.callz (i:=2) (f:=29) (args:=#[.pointer (some ⟨p,0,none⟩)]) rfl rfl rfl (by go_simp) ?_
         refine Calls.mono (deedOf_c p cb co sl sc sa ua HSua.out.d.src) ?_
         rintro e ub ⟨q0,q1,q2,q3,q4,q5,q6,q7,q8,q9,rfl,hq,hD⟩
         have HSub:=qH (HSua.out.drawn hD hne hne2 hpb)
         have HQ:=qH hq
         have HXub:=qH (HXua.out.grown hD.gr hnp)
         clear hq hD HSua
         refine ⟨_,rfl,HSub.out,?_⟩
         simp only [pS,List.set,zT,zZ,zU]
         refine TillZ.one (i:=3) (by kernel_rfl) ?_
         refine TillZ.callz (i:=3) (f:=46) (args:=#[.agg #[.int .i64 b.c0,.int .i64 b.c1,.int .i64 b.c2,.int .i64 b.c3,.slice a1 n1 a3,.slice a2 n2 a4],.agg #[.int .i64 q0,.int .i64 q1,.int .i64 q2,.int .i64 q3,.int .i64 q4,.int .i64 q5,.string q6,.string q7,.int .i64 q8,.string q9]]) rfl rfl rfl (by go_simp) ?_
         refine Calls.mono (l07Do_any b.c0 b.c1 b.c2 b.c3 b.ts b.is q0 q1 q2 q3 q4 q5 q6 q7 q8 q9 a1 a2 n1 n2 a3 a4 ub HSub.out.o.read hbb HQ.out) ?_
         rintro e uc ⟨e1,p1,e3,e2,p2,e4,rfl,ho,hb⟩
         have HR : Hid ((doS ⟨b.c0,b.c1,b.c2,b.c3,b.ts,b.is⟩ ⟨q0,q1,q2,q3,q4,q5,q6,q7,q8,q9⟩).2 = 0 -> bookB (doS ⟨b.c0,b.c1,b.c2,b.c3,b.ts,b.is⟩ ⟨q0,q1,q2,q3,q4,q5,q6,q7,q8,q9⟩).1 = true):=qH (doS_book hbb HQ.out)
         generalize (doS ⟨b.c0,b.c1,b.c2,b.c3,b.ts,b.is⟩ ⟨q0,q1,q2,q3,q4,q5,q6,q7,q8,q9⟩).1 = b2 at *
         generalize (doS ⟨b.c0,b.c1,b.c2,b.c3,b.ts,b.is⟩ ⟨q0,q1,q2,q3,q4,q5,q6,q7,q8,q9⟩).2 = cd at *
         have HSuc:=qH (HSub.out.below hb)
         have HOuc:=qH (ho.mono (show w.heap.size + 2 <= ub.heap.size by have:=HSub.out.x.lt;omega))
         have HXuc:=qH (HXub.out.below hb)
         have HFN:=qH (ho.far HXub.out.lt)
         clear ho hb HSub
         refine ⟨_,rfl,HSuc.out,?_⟩
         simp only [pS,List.set,zT,zZ,zU]
         obtain ⟨vl,hvl⟩ : ∃ vl : List Value,vl = [.int .i64 b2.c0,.int .i64 b2.c1,.int .i64 b2.c2,.int .i64 b2.c3,.slice e1 p1 e3,.slice e2 p2 e4,.int .i64 cd]:=⟨_,rfl⟩
         have HVE:=qH hvl
         have HVL:=qH (show vl.length = 7 by rw [hvl];rfl)
         have HVO:=qH (show vl.all (·.oneCell') = true by rw [hvl];rfl)
         clear hvl
         have hgr:=setCells_grown nb vl 0 uc
         have HSF:=qH (HSuc.out.put hgr HFO.out hnb hhb2 hp hcb)
         have HOF:=qH (HOuc.out.grownF hgr HFN.out)
         have HXF:=qH (show BoxC (uc.setCells nb 0 vl) nb [.int .i64 b2.c0,.int .i64 b2.c1,.int .i64 b2.c2,.int .i64 b2.c3,.slice e1 p1 e3,.slice e2 p2 e4,.int .i64 cd] by rw [<- HVE.out];exact box_setCells HXuc.out vl HVL.out)
         clear hgr
         refine TillZ.hand_skip (w':=uc.setCells nb 0 vl) (by kernel_rfl) rfl rfl (exec_store HXuc.out 46 (.tmp 5) (.tmp 24) 7 rfl rfl (by rw [HVE.out];rfl) rfl HVL.out HVO.out (by kernel_rfl)) ?_
         simp only [pN,zT,zZ,zU]
         refine TillZ.any_done (by kernel_rfl) ?_ _
         generalize uc.setCells nb 0 vl = Y at *
         go_wp2_with fail
         go_meet
         exact ⟨nb,b2,cd,e1,p1,e3,e2,p2,e4,rfl,HXF.out,HOF.out,HR.out,HSF.out⟩
      case rest =>
       clear HST
       obtain ⟨nb,b2,cd,e1,p1,e3,e2,p2,e4,rfl,hx,ho,hr2,hs⟩:=hcut
       have HXN:=qH (show BoxC wc nb [.int .i64 b2.c0,.int .i64 b2.c1,.int .i64 b2.c2,.int .i64 b2.c3,.slice e1 p1 e3,.slice e2 p2 e4] from ⟨hx.lt,fun j v hv => hx.cell j v (by
        have hj : j < 6:=by
         rcases Nat.lt_or_ge j 6 with h6 | h6
         · exact h6
         · rw [List.getElem?_eq_none (by simpa using h6)] at hv;cases hv
        rw [<- hv]
        have hj6 : j = 0 ∨ j = 1 ∨ j = 2 ∨ j = 3 ∨ j = 4 ∨ j = 5:=by omega
        rcases hj6 with rfl | rfl | rfl | rfl | rfl | rfl <;> rfl),hx.free⟩)
       have HOC:=qH ho
       have HRC:=qH hr2
       have HSC:=qH hs
       have x6:=hx.cell 6 _ rfl
       clear hx ho hr2 hs
       by_cases hcd : cd = 0
       · subst hcd
         obtain ⟨vl,hvl⟩ : ∃ vl : List Value,vl = [.int .i64 b2.c0,.int .i64 b2.c1,.int .i64 b2.c2,.int .i64 b2.c3,.slice e1 p1 e3,.slice e2 p2 e4]:=⟨_,rfl⟩
         have HVE:=qH hvl
         have HVL:=qH (show vl.length = 6 by rw [hvl];rfl)
         have HVO:=qH (show vl.all (·.oneCell') = true by rw [hvl];rfl)
         clear hvl
         have HXV:=qH (show BoxC wc nb vl by rw [HVE.out];exact HXN.out)
         have hgr:=setCells_grown (h + 1) vl 0 wc
         have HSF:=qH (show BState w (wc.setCells (h + 1) 0 vl) p cb co sl sc sa h b2 e1 p1 e3 e2 p2 e4 from ⟨HSC.out.z.grown hgr (by simp),by rw [<- HVE.out];exact box_setCells HSC.out.x vl HVL.out,HOC.out.grownF hgr (HOC.out.far hhb2),HSC.out.d.row hp hcb hgr (fun k hk => by cases hk;exact hh1w)⟩)
         clear hgr
         go_wp2_with (first | (refine list_load HXV.out 28 _ 6 rfl rfl rfl HVL.out (by kernel_rfl) ?_;simp only [pS,List.set]) | (refine list_store (vs:=vl) HSC.out.x 28 _ _ 6 rfl rfl rfl rfl rfl HVL.out HVO.out (by kernel_rfl) ?_;simp only [pN]))
         go_roundw
         case rel => exact ⟨k - 1,b2,e1,p1,e3,e2,p2,e4,rfl,by omega,by omega,qH (HRC.out rfl),HSF⟩
         case measure => simp [intOf];omega
       · go_wp2_with fail
         go_roundw
         case rel => exact ⟨k - 1,b,a1,n1,a3,a2,n2,a4,rfl,by omega,by omega,HBB,HSC⟩
         case measure => simp [intOf];omega
    · obtain rfl : k = 0:=by omega
      obtain ⟨vl,hvl⟩ : ∃ vl : List Value,vl = [.int .i64 b.c0,.int .i64 b.c1,.int .i64 b.c2,.int .i64 b.c3,.slice a1 n1 a3,.slice a2 n2 a4]:=⟨_,rfl⟩
      have HVE:=qH hvl
      have HVL:=qH (show vl.length = 6 by rw [hvl];rfl)
      have HVO:=qH (show vl.all (·.oneCell') = true by rw [hvl];rfl)
      clear hvl
      have HEV:=qH (show BoxC _ (h + 1) vl by rw [HVE.out];exact HST.out.x)
      have HY:=qH (box_setCells HST.out.z vl HVL.out)
      have hgr:=setCells_grown h vl 0
      have HDF:=qH (HST.out.d.row hp hcb (hgr _) (fun k hk => by cases hk;exact hhw))
      have HBF:=qH ((HST.out.o.grownF (hgr _) (HST.out.o.far hhb)).mono (show w.heap.size <= w.heap.size + 2 by omega))
      clear hgr
      go_wp2_with (first | (refine list_load HEV.out 28 _ 6 rfl rfl rfl HVL.out (by kernel_rfl) ?_;simp only [pS,List.set]) | (refine list_store (vs:=vl) HST.out.z 28 _ _ 6 rfl rfl rfl rfl rfl HVL.out HVO.out (by kernel_rfl) ?_;simp only [pN]))
      exact bodyPost_ret (v:=.agg vl.toArray) (results_box HY.out Tryz.results61 rfl HVL.out (by kernel_rfl)) rfl ⟨b,_,_,_,_,_,_,by rw [HVE.out],HBB.out,HBF.out,HDF.out⟩
 · skip
   obtain ⟨vl,hvl⟩ : ∃ vl : List Value,vl = [.int .i64 bk0.c0,.int .i64 bk0.c1,.int .i64 bk0.c2,.int .i64 bk0.c3,.slice none 0 0,.slice none 0 0]:=⟨_,rfl⟩
   have HVE:=qH hvl
   have HVL:=qH (show vl.length = 6 by rw [hvl];rfl)
   have HVO:=qH (show vl.all (·.oneCell') = true by rw [hvl];rfl)
   clear hvl
   have HEV:=qH (show BoxC _ (h + 1) vl by rw [HVE.out];exact HS1.out.x)
   have HY:=qH (box_setCells HS1.out.z vl HVL.out)
   have hgr:=setCells_grown h vl 0
   have HDF:=qH (HS1.out.d.row hp hcb (hgr _) (fun k hk => by cases hk;exact hhw))
   have HBF:=qH ((HS1.out.o.grownF (hgr _) (HS1.out.o.far hhb)).mono (show w.heap.size <= w.heap.size + 2 by omega))
   clear hgr
   go_wp2_with (first | (refine list_load HEV.out 28 _ 6 rfl rfl rfl HVL.out (by kernel_rfl) ?_;simp only [pS,List.set]) | (refine list_store (vs:=vl) HS1.out.z 28 _ _ 6 rfl rfl rfl rfl rfl HVL.out HVO.out (by kernel_rfl) ?_;simp only [pN]))
   exact bodyPost_ret (v:=.agg vl.toArray) (results_box HY.out Tryz.results61 rfl HVL.out (by kernel_rfl)) rfl ⟨bk0,_,_,_,_,_,_,by rw [HVE.out],bookB_bk0,HBF.out,HDF.out⟩
end Go.Proofs.YtbgoldeopmlbnaaGreatDoor
