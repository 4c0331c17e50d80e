/- Used by the law. -/
import Derived.Test.YtbgoldeopmlbnaaGreatDoorQB27
set_option maxRecDepth 100000
set_option maxHeartbeats 16000000
namespace Go.Proofs.YtbgoldeopmlbnaaGreatDoor
open Go.RowKit Go.PlainAid G MGet MGF IRow MNum MJoin
set_option linter.unusedVariables false
def txF (s : ByteArray) : Nat -> Nat -> List (List Dd)
 | 0,_ => []
 | f + 1,p => if (getT s (p : Int)).2.2 = 0 then (if rdPart (getT s (p : Int)).1 = [] then [] else rdPart (getT s (p : Int)).1 :: txF s f (getT s (p : Int)).2.1.toNat) else []
def txRd (s : ByteArray) : List (List Dd):=txF s (s.size + 1) 0
theorem txF_no {s : ByteArray} {f p : Nat} (h : ¬ (getT s (p : Int)).2.2 = 0) : txF s f p = []:=by
 cases f with
 | zero => rfl
 | succ f => unfold txF;rw [if_neg h]
theorem txF_end {s : ByteArray} {f p : Nat} (h : rdPart (getT s (p : Int)).1 = []) : txF s f p = []:=by
 cases f with
 | zero => rfl
 | succ f =>
  unfold txF
  split <;> first | rfl | rw [if_pos h]
theorem txF_go {s t : ByteArray} {f p p' : Nat} (h : getT s (p : Int) = (t,(p' : Int),0)) (hr : ¬ rdPart t = []) : txF s (f + 1) p = rdPart t :: txF s f p':=by
 conv => lhs;unfold txF
 rw [h]
 rw [if_pos rfl,if_neg hr]
 rfl
theorem txt_far {u : ByteArray} {a : Nat} (h : (txtS u a).2.2 = 0) : (a : Int) < (txtS u a).2.1 /\ (txtS u a).2.1 <= (u.size : Int):=by
 unfold txtS at h ⊢
 split at h
 · rename_i h1;exact absurd h h1
 · rename_i h1
   rw [if_neg h1]
   split at h
   · exact absurd h (by decide)
   · rename_i h2
     rw [if_neg h2]
     split at h
     · exact absurd h (by decide)
     · rename_i h3
       rw [if_neg h3]
       have hp:=rd_place u a 10 0 0 (by simpa using h1)
       dsimp only
       omega
theorem getT_step {s : ByteArray} {p : Nat} (h : (getT s (p : Int)).2.2 = 0) : ∃ t p',getT s (p : Int) = (t,((p' : Nat) : Int),0) /\ p < p' /\ p' <= s.size /\ t.size <= maxLen /\ s.size <= 8000:=by
 by_cases hl : 8000 < s.size
 · rw [getT_size hl] at h;exact absurd h (by decide)
 · rw [getT_read hl] at h ⊢
   obtain ⟨t,p',_,hy,hp,ht⟩:=sT_step (by omega) h
   have hf:=txt_far h
   rw [hy] at hf
   dsimp only at hf
   exact ⟨t,p',hy,by omega,hp,ht,by omega⟩
theorem getT_zero {s : ByteArray} {p : Nat} (h : ¬ (getT s (p : Int)).2.2 = 0) : getT s (p : Int) = (⟨#[]⟩,0,(getT s (p : Int)).2.2):=by
 by_cases hl : 8000 < s.size
 · rw [getT_size hl]
 · rw [getT_read hl] at h ⊢
   exact txt_zero s p h
structure Rw where
 a : Option Addr
 n : Nat
 c : Nat
 l : List Dd
abbrev Rw.v (r : Rw) : Value:=.slice r.a r.n r.c
def rwD : Rw:=⟨none,0,0,[]⟩
def rwE : Enc Rw:=⟨1,fun r => [.slice r.a r.n r.c],fun _ => rfl,fun _ v hv => by simp at hv;subst hv;rfl⟩
theorem infoDeeds : (Tryz.prog.info? 37).map (fun i => (i.zero,i.size,i.bytes)) = some (some (Value.slice none 0 0),1,24):=by kernel_rfl
structure SS (w : World) (B : Nat) (v : Value) (rs : List Rw) : Prop where
 out : w.ownsRow B 37 rwE.k v rs.length (rwE.flat rs)
 row : ∀ i,i < rs.length -> w.ownsRow B 34 ddE.k (rs.getD i rwD).v (rs.getD i rwD).n (ddE.flat (rs.getD i rwD).l)
 dis : ∀ i j,i < j -> j < rs.length -> Disj (rs.getD i rwD).v (rs.getD j rwD).v
theorem SS.nil (w : World) (B : Nat) : SS w B (.slice none 0 0) []:=⟨World.ownsRow_nil _ _ _ _,fun i hi => absurd hi (Nat.not_lt_zero _),fun i j _ hj => absurd hj (Nat.not_lt_zero _)⟩
theorem SS.below {w w' : World} {B : Nat} {v : Value} {rs : List Rw} (h : SS w B v rs) (hb : Below w.heap.size w w') : SS w' B v rs :=
 ⟨own_below h.out hb,fun i hi => own_below (h.row i hi) hb,h.dis⟩
theorem SS.push {w w' : World} {B : Nat} {v v' : Value} {rs : List Rw} {r : Rw} (h : SS w B v rs) (hr : w.ownsRow B 34 ddE.k r.v r.n (ddE.flat r.l)) (hd : ∀ i,i < rs.length -> Disj (rs.getD i rwD).v r.v)
 (ho : w'.ownsRow B 37 rwE.k v' (rs.length + 1) (rwE.flat (rs ++ [r]))) (hg : w.grownBy w' v.ownBlock) : SS w' B v' (rs ++ [r]):=by
 have hl : (rs ++ [r]).length = rs.length + 1:=by simp
 have e1 : ∀ i,i < rs.length -> (rs ++ [r]).getD i rwD = rs.getD i rwD:=fun i hi => by simp [List.getD,List.getElem?_append_left hi]
 have e2 : (rs ++ [r]).getD rs.length rwD = r:=by simp [List.getD]
 refine ⟨by rw [hl];exact ho,fun i hi => ?_,fun i j hij hj => ?_⟩
 · rcases Nat.lt_or_ge i rs.length with h1 | h1
   · rw [e1 i h1]
     exact own_grown (h.row i h1) hg (own_types (h.row i h1) h.out (by decide))
   · obtain rfl : i = rs.length:=by omega
     rw [e2]
     exact own_grown hr hg (own_types hr h.out (by decide))
 · rcases Nat.lt_or_ge j rs.length with h1 | h1
   · rw [e1 j h1,e1 i (by omega)]
     exact h.dis i j hij h1
   · obtain rfl : j = rs.length:=by omega
     rw [e2,e1 i hij]
     exact hd i hij
def NewSS (ls : List (List Dd)) (w : World) (e : Ending) (w' : World) : Prop :=
 ∃ a n c rs,e = .returned (.slice a n c) /\ n = rs.length /\ SS w' w.heap.size (.slice a n c) rs /\ rs.map Rw.l = ls /\ Below w.heap.size w w'
structure SSL (w : World) (B : Nat) (v : Value) (rs : List Rw) (L : Nat -> List Dd) : Prop where
 out : w.ownsRow B 37 rwE.k v rs.length (rwE.flat rs)
 row : ∀ i,i < rs.length -> w.ownsRow B 34 ddE.k (rs.getD i rwD).v (rs.getD i rwD).n (ddE.flat (L i))
 dis : ∀ i j,i < j -> j < rs.length -> Disj (rs.getD i rwD).v (rs.getD j rwD).v
theorem SS.rows {w : World} {B : Nat} {v : Value} {rs : List Rw} (h : SS w B v rs) : SSL w B v rs (fun i => (rs.getD i rwD).l):=⟨h.out,h.row,h.dis⟩
theorem SSL.below {w w' : World} {B : Nat} {v : Value} {rs : List Rw} {L : Nat -> List Dd} (h : SSL w B v rs L) (hb : Below w.heap.size w w') : SSL w' B v rs L :=
 ⟨own_below h.out hb,fun i hi => own_below (h.row i hi) hb,h.dis⟩
theorem SSL.at {w : World} {B c : Nat} {a : Option Addr} {rs : List Rw} {L : Nat -> List Dd} (h : SSL w B (.slice a rs.length c) rs L) {i : Nat} (hi : i < rs.length) : ∃ g o,a = some ⟨g,o,none⟩ /\ g < w.heap.size /\ w.cell? ⟨g,o + i,none⟩ = some (.slice (rs.getD i rwD).a (rs.getD i rwD).n (rs.getD i rwD).c) /\ DdR w (rs.getD i rwD).a (rs.getD i rwD).n (rs.getD i rwD).c (L i):=by
 obtain ⟨g,o,ha,hg,hc⟩:=(SR.own (E:=rwE) (d:=rwD) (by decide) h.out).cells (by omega)
 exact ⟨g,o,ha,hg,by simpa [rwE] using hc i hi 0 _ rfl,DdR.own (h.row i hi)⟩
theorem SSL.to {w : World} {B : Nat} {v : Value} {rs : List Rw} {L L' : Nat -> List Dd} (h : SSL w B v rs L) (he : ∀ i,i < rs.length -> L' i = L i) : SSL w B v rs L':=⟨h.out,fun i hi => by rw [he i hi];exact h.row i hi,h.dis⟩
def LR (l : List Dd) : Prop:=1 <= l.length /\ l.length <= 10 /\ ∀ t,t < l.length -> deedOf (l.getD t ddD) = true
theorem rdTx_right (u : ByteArray) (h : ¬ rdTx u = []) : LR (rdTx u):=by
 by_cases hc : 1 <= (sN u (0,false)).1 /\ (sN u (0,false)).1 <= 10 /\ okTo u (sN u (0,false)).2 (sN u (0,false)).1.toNat = true /\ (plAt u (sN u (0,false)).2 (sN u (0,false)).1.toNat).1 = u.size
 · rw [rdTx_yes hc]
   refine ⟨by rw [ddsTo_length];omega,by rw [ddsTo_length];omega,fun t ht => ?_⟩
   rw [ddsTo_length] at ht
   have e : (ddsTo u (sN u (0,false)).2 (sN u (0,false)).1.toNat).getD t ddD = ddAt u (sN u (0,false)).2 t:=by
    unfold ddsTo
    simp [List.getD,ht]
   rw [e]
   exact (okDeed_iff.1 (okTo_of hc.2.2.1 ht)).2
 · exact absurd (rdTx_no hc) h
theorem rdPart_right (t : ByteArray) (h : ¬ rdPart t = []) : LR (rdPart t):=by
 unfold rdPart at h ⊢
 split
 · rename_i h1
   rw [if_pos h1] at h
   exact rdTx_right _ h
 · rename_i h1
   rw [if_neg h1] at h
   exact absurd rfl h
theorem txF_right (s : ByteArray) : ∀ (f p : Nat),∀ l ∈ txF s f p,LR l
 | 0,_,l,h => by cases h
 | f + 1,p,l,h => by
  unfold txF at h
  split at h
  · split at h
    · cases h
    · rename_i h2
      rcases List.mem_cons.1 h with rfl | h
      · exact rdPart_right _ h2
      · exact txF_right s f _ l h
  · cases h
theorem txRd_right (s : ByteArray) : ∀ l ∈ txRd s,LR l:=txF_right s _ _
def rpS : Bk -> List (List Dd) -> Bk × Nat
 | b,[] => (b,0)
 | b,l :: r => if (doAllS b l).2 = 0 then ((rpS (doAllS b l).1 r).1,(rpS (doAllS b l).1 r).2 + 1) else (b,0)
theorem rpS_go {b : Bk} {l : List Dd} {r : List (List Dd)} (h : (doAllS b l).2 = 0) : rpS b (l :: r) = ((rpS (doAllS b l).1 r).1,(rpS (doAllS b l).1 r).2 + 1):=by
 conv => lhs;unfold rpS
 rw [if_pos h]
theorem rpS_no {b : Bk} {l : List Dd} {r : List (List Dd)} (h : ¬ (doAllS b l).2 = 0) : rpS b (l :: r) = (b,0):=by
 unfold rpS
 rw [if_neg h]
theorem doAllS_right : ∀ (ds : List Dd) {b : Bk},bookB b = true -> (∀ t,t < ds.length -> deedOf (ds.getD t ddD) = true) -> (doAllS b ds).2 = 0 -> bookB (doAllS b ds).1 = true
 | [],b,hb,_,_ => hb
 | d :: r,b,hb,hd,hc => by
  have h0 : deedOf d = true:=hd 0 (by simp)
  unfold doAllS at hc ⊢
  by_cases h1 : (doS b d).2 = 0
  · rw [if_pos h1] at hc ⊢
    exact doAllS_right r (bookB_right (doS_right hb h0 h1)) (fun t ht => by have:=hd (t + 1) (by simpa using ht);simpa [List.getD] using this) hc
  · rw [if_neg h1] at hc
    exact absurd hc h1
theorem bookB_bk0 : bookB bk0 = true:=by decide
theorem rpS_right : ∀ (ls : List (List Dd)) {b : Bk},bookB b = true -> (∀ l ∈ ls,LR l) -> bookB (rpS b ls).1 = true
 | [],b,hb,_ => hb
 | l :: r,b,hb,hl => by
  by_cases h : (doAllS b l).2 = 0
  · rw [rpS_go h]
    exact rpS_right r (doAllS_right l hb (hl l (List.mem_cons_self ..)).2.2 h) (fun x hx => hl x (List.mem_cons_of_mem _ hx))
  · rw [rpS_no h]
    exact hb
def bkOf (s : ByteArray) : Bk:=(rpS bk0 (txRd s)).1
theorem bkOf_right (s : ByteArray) : bookB (bkOf s) = true:=rpS_right _ bookB_bk0 (txRd_right s)
end Go.Proofs.YtbgoldeopmlbnaaGreatDoor
