/- Used by the law. -/
import Derived.Test.YthkbcjnbmciolaaGreatDoorQV19
set_option maxRecDepth 100000
set_option maxHeartbeats 16000000
namespace Go.Proofs.YthkbcjnbmciolaaGreatDoor
open Go.RowKit Go.PlainAid G MGet MGF IRow MNum MJoin
set_option linter.unusedVariables false
structure SSL (w : World) (B : Nat) (v : Value) (rs : List Rw) (L : Nat -> List Dd) : Prop where
 out : w.ownsRow B 123 rwE.k v rs.length (rwE.flat rs)
 row : ∀ i,i < rs.length -> w.ownsRow B 145 ddE.k (rs.getD i rwD).v (rs.getD i rwD).n (ddE.flat (L i))
 dis : ∀ i j,i < j -> j < rs.length -> Disj (rs.getD i rwD).v (rs.getD j rwD).v
theorem SS.rows {w : World} {B : Nat} {v : Value} {rs : List Rw} (h : SS w B v rs) : SSL w B v rs (fun i => (rs.getD i rwD).l):=⟨h.out,h.row,h.dis⟩
theorem SSL.below {w w' : World} {B : Nat} {v : Value} {rs : List Rw} {L : Nat -> List Dd} (h : SSL w B v rs L) (hb : Below w.heap.size w w') : SSL w' B v rs L :=
 ⟨own_below h.out hb,fun i hi => own_below (h.row i hi) hb,h.dis⟩
theorem SSL.at {w : World} {B c : Nat} {a : Option Addr} {rs : List Rw} {L : Nat -> List Dd} (h : SSL w B (.slice a rs.length c) rs L) {i : Nat} (hi : i < rs.length) : ∃ g o,a = some ⟨g,o,none⟩ /\ g < w.heap.size /\ w.cell? ⟨g,o + i,none⟩ = some (.slice (rs.getD i rwD).a (rs.getD i rwD).n (rs.getD i rwD).c) /\ DdR w (rs.getD i rwD).a (rs.getD i rwD).n (rs.getD i rwD).c (L i):=by
 obtain ⟨g,o,ha,hg,hc⟩:=(SR.own (E:=rwE) (d:=rwD) (by decide) h.out).cells (by omega)
 exact ⟨g,o,ha,hg,by simpa [rwE] using hc i hi 0 _ rfl,DdR.own (h.row i hi)⟩
theorem SSL.to {w : World} {B : Nat} {v : Value} {rs : List Rw} {L L' : Nat -> List Dd} (h : SSL w B v rs L) (he : ∀ i,i < rs.length -> L' i = L i) : SSL w B v rs L':=⟨h.out,fun i hi => by rw [he i hi];exact h.row i hi,h.dis⟩
end Go.Proofs.YthkbcjnbmciolaaGreatDoor
namespace Go.Proofs.YthkbcjnbmciolaaGreatDoor
open Go.RowKit Go.PlainAid G
set_option linter.unusedVariables false
def tAt (ts : List Tm) (i : Nat) : Bool:=termB (ts.getD i tmD).no (ts.getD i tmD).lk && decide ((ts.getD i tmD).no = (i : Int) + 1)
def iAt (n : Nat) (is : List Im) (i : Nat) : Bool:=itemB (is.getD i imD).nm (is.getD i imD).tm (is.getD i imD).bd && decide ((is.getD i imD).tm <= (n : Int)) && (decide (i = 0) || ltS (is.getD (i - 1) imD).nm (is.getD i imD).nm)
def allTo' (f : Nat -> Bool) (k : Nat) : Bool:=(List.range k).all f
theorem allTo'_succ {f : Nat -> Bool} {k : Nat} (h : allTo' f k = true) (h1 : f k = true) : allTo' f (k + 1) = true:=by
 unfold allTo' at h ⊢
 rw [List.range_succ,List.all_append,h]
 simp [h1]
theorem allTo'_no {f : Nat -> Bool} {k n : Nat} (hk : k < n) (h : f k = false) : allTo' f n = false:=by
 unfold allTo'
 rw [List.all_eq_false]
 exact ⟨k,List.mem_range.2 hk,by rw [h];decide⟩
theorem allTo'_iff {f : Nat -> Bool} {n : Nat} : allTo' f n = true ↔ ∀ i,i < n -> f i = true:=by
 unfold allTo'
 rw [List.all_eq_true]
 exact ⟨fun h i hi => h i (List.mem_range.2 hi),fun h i hi => h i (List.mem_range.1 hi)⟩
def bookB (b : Bk) : Bool:=zeroB b.c0 b.c1 b.c2 b.c3 b.ts.length b.is.length || (confB b.c0 b.c1 b.c2 b.c3 && decide (1 <= b.ts.length /\ b.ts.length <= 5) && decide (b.is.length <= 8) && allTo' (tAt b.ts) b.ts.length && allTo' (iAt b.ts.length b.is) b.is.length)
end Go.Proofs.YthkbcjnbmciolaaGreatDoor
namespace Go.Proofs.YthkbcjnbmciolaaGreatDoor
open Go.RowKit Go.PlainAid G IRow
set_option linter.unusedVariables false
theorem l07Copy_any (c0 c1 c2 c3 : Int) (a1 a2 : Option Addr) (n1 n2 a3 a4 : Nat) (ts : List Tm) (is : List Im) (w : World) (h : BkR w a1 n1 a3 a2 n2 a4 ts is) (hn1 : n1 <= 1048576) (hn2 : n2 <= 1048576) :
 Calls Tryz.prog 116 #[.agg #[.int .i64 c0,.int .i64 c1,.int .i64 c2,.int .i64 c3,.slice a1 n1 a3,.slice a2 n2 a4]] w (NewBook c0 c1 c2 c3 ts is w):=by
 have hmx : Tryz.prog.follows .mixedOrders = true:=by kernel_rfl
 obtain ⟨i1,hi1,hz1,hs1,hy1⟩:=info_parts infoTerm
 obtain ⟨i2,hi2,hz2,hs2,hy2⟩:=info_parts infoItem
 obtain ⟨W,hW⟩ : ∃ W,W = (w.alloc (.cells #[.int .i64 c0,.int .i64 c1,.int .i64 c2,.int .i64 c3,.slice a1 n1 a3,.slice a2 n2 a4] 43)).alloc (.cells #[.int .i64 0,.int .i64 0,.int .i64 0,.int .i64 0,.slice none 0 0,.slice none 0 0] 43):=⟨_,rfl⟩
 have hb0 : Below w.heap.size w W:=by rw [hW];repeat' (first | exact Below.refl _ _ | refine Below.alloc ?_ (by first | exact Nat.le_refl _ | (simp;done) | (simp;omega)) _)
 have hA : BoxC W (w.heap.size) [.int .i64 c0,.int .i64 c1,.int .i64 c2,.int .i64 c3,.slice a1 n1 a3,.slice a2 n2 a4]:=by rw [hW];exact (BoxC.made _ _ _).alloc _
 have hC : BoxC W (w.heap.size + 1) [.int .i64 0,.int .i64 0,.int .i64 0,.int .i64 0,.slice none 0 0,.slice none 0 0]:=by rw [hW];have:=BoxC.made (w.alloc (.cells #[.int .i64 c0,.int .i64 c1,.int .i64 c2,.int .i64 c3,.slice a1 n1 a3,.slice a2 n2 a4] 43)) #[.int .i64 0,.int .i64 0,.int .i64 0,.int .i64 0,.slice none 0 0,.slice none 0 0] 43;rwa [World.size_alloc] at this
 obtain ⟨S,hSd⟩ : ∃ S : World -> Prop,S = fun u => BoxC u w.heap.size [.int .i64 c0,.int .i64 c1,.int .i64 c2,.int .i64 c3,.slice a1 n1 a3,.slice a2 n2 a4] /\ BoxC u (w.heap.size + 1) [.int .i64 0,.int .i64 0,.int .i64 0,.int .i64 0,.slice none 0 0,.slice none 0 0] /\ Below w.heap.size w u:=⟨_,rfl⟩
 have HSA : Hid (∀ u,S u -> BoxC u w.heap.size [.int .i64 c0,.int .i64 c1,.int .i64 c2,.int .i64 c3,.slice a1 n1 a3,.slice a2 n2 a4]):=qH (fun u hu => by rw [hSd] at hu;exact hu.1)
 have HSC : Hid (∀ u,S u -> BoxC u (w.heap.size + 1) [.int .i64 0,.int .i64 0,.int .i64 0,.int .i64 0,.slice none 0 0,.slice none 0 0]):=qH (fun u hu => by rw [hSd] at hu;exact hu.2.1)
 have HSB : Hid (∀ u,S u -> Below w.heap.size w u):=qH (fun u hu => by rw [hSd] at hu;exact hu.2.2)
 have HSa : Hid (∀ u ob,S u -> S (u.alloc ob)):=qH (fun u ob hu => by rw [hSd] at hu ⊢;exact ⟨hu.1.alloc _,hu.2.1.alloc _,hu.2.2.alloc hu.2.2.size _⟩)
 have HSg : Hid (∀ u u' row,S u -> u.grownBy u' row -> (∀ q,row = some q -> w.heap.size + 1 < q) -> S u'):=qH (fun u u' row hu hg hq => by
  rw [hSd] at hu ⊢
  exact ⟨hu.1.grown hg (fun e => by have:=hq _ e.symm;omega),hu.2.1.grown hg (fun e => by have:=hq _ e.symm;omega),hu.2.2.grown hg hu.2.2.size (fun q hq2 => by have:=hq q hq2;omega)⟩)
 have hS0 : S W.drew:=by rw [hSd];exact ⟨hA.drew,hC.drew,hb0.drew⟩
 have HR:=qH h
 have hsz : ∀ u,S u -> w.heap.size + 1 < u.heap.size:=fun u hu => (HSC.out u hu).lt
 have HSZ:=qH hsz
 clear hA hC hSd h hb0 hsz
 go_enter Tryz.func116,Tryz.ntmps116
 go_wp2_with fail
 rw [<- hW]
 clear hW
 refine TillZ.region (t:=11) hmx S ?_
 refine TillZ.take4 (i:=0) (v:=.pointer (some ⟨w.heap.size,0,none⟩)) rfl rfl rfl (by kernel_rfl) hS0 (fun u hu => by go_simp) ?_
 simp only [pS,List.set,zT,zZ]
 refine TillZ.take4 (i:=1) (v:=.agg #[.int .i64 c0,.int .i64 c1,.int .i64 c2,.int .i64 c3]) rfl rfl rfl (by kernel_rfl) hS0 (fun u hu => by have x0:=(HSA.out u hu).cell 0 _ rfl;have x1:=(HSA.out u hu).cell 1 _ rfl;have x2:=(HSA.out u hu).cell 2 _ rfl;have x3:=(HSA.out u hu).cell 3 _ rfl;go_simp) ?_
 simp only [pS,List.set,zT,zZ,zU]
 refine TillZ.take4 (i:=3) (v:=.pointer (some ⟨w.heap.size,4,none⟩)) rfl rfl rfl (by kernel_rfl) hS0 (fun u hu => by go_simp) ?_
 simp only [pS,List.set,zT,zZ,zU]
 refine TillZ.take4 (i:=4) (v:=.slice a1 n1 a3) rfl rfl rfl (by kernel_rfl) hS0 (fun u hu => by have x4:=(HSA.out u hu).cell 4 _ rfl;go_simp) ?_
 simp only [pS,List.set,zT,zZ,zU]
 refine TillZ.take4 (i:=7) (v:=.pointer (some ⟨w.heap.size,5,none⟩)) rfl rfl rfl (by kernel_rfl) hS0 (fun u hu => by go_simp) ?_
 simp only [pS,List.set,zT,zZ,zU]
 refine TillZ.take4 (i:=8) (v:=.slice a2 n2 a4) rfl rfl rfl (by kernel_rfl) hS0 (fun u hu => by have x5:=(HSA.out u hu).cell 5 _ rfl;go_simp) ?_
 simp only [pS,List.set,zT,zZ,zU]
 generalize W.drew = u0 at hS0 ⊢
 refine TillZ.two (i:=2) (j:=6) (by kernel_rfl) ?_ ?_
 · skip
   refine TillZ.opz (i:=2) (v:=.slice (some ⟨u0.heap.size,0,none⟩) 0 0) (w':=u0.alloc (.cells #[] 97)) rfl rfl rfl (by go_simp) (HSa.out _ _ hS0) ?_
   simp only [pS,List.set,zT,zZ,zU]
   have S1:=HSa.out _ (.cells #[] 97) hS0
   have O1:=own_made0 tmE u0 97 (base:=w.heap.size + 2) (by have:=HSZ.out _ hS0;omega)
   obtain ⟨v1,hv1⟩ : ∃ V,V = Value.slice (some ⟨u0.heap.size,0,none⟩) 0 0:=⟨_,rfl⟩
   obtain ⟨u1,hu1⟩ : ∃ U,U = u0.alloc (.cells #[] 97):=⟨_,rfl⟩
   rw [<- hv1] at O1 ⊢
   rw [<- hu1] at S1 O1 ⊢
   clear hu1 hv1
   refine TillZ.two (i:=5) (j:=6) (by kernel_rfl) ?_ ?_
   · skip
     refine append_opz tmE tmD (i:=5) (.tmp 5) (.tmp 7) 40 rfl rfl rfl rfl 97 i1 _ 24 Tryz.underlying40 hi1 hz1 hs1 hy1 rfl (by decide) (by decide) (w.heap.size + 2) v1 0 [] rfl O1 a1 n1 a3 ts rfl (HR.out.below (HSB.out _ S1)).t (by have:=HSZ.out _ S1;omega) (by omega) (by omega) (fun v2 u2 O2 G2 => ?_)
     simp only [pS,List.set,zT,zZ,zU]
     rw [Nat.zero_add,List.nil_append] at O2
     have S2:=HSg.out _ _ _ S1 G2 (fun q hq => by have:=(O1.lt q hq).1;omega)
     refine ⟨S2,?_⟩
     refine TillZ.one (i:=6) (by kernel_rfl) ?_
     refine TillZ.opz (i:=6) (v:=.slice (some ⟨u2.heap.size,0,none⟩) 0 0) (w':=u2.alloc (.cells #[] 62)) rfl rfl rfl (by go_simp) (HSa.out _ _ S2) ?_
     simp only [pS,List.set,zT,zZ,zU]
     have S3:=HSa.out _ (.cells #[] 62) S2
     have O3:=own_made0 imE u2 62 (base:=w.heap.size + 2) (by have:=HSZ.out _ S2;omega)
     have P3T:=World.ownsRow.alloc O2 (.cells #[] 62)
     obtain ⟨v3,hv3⟩ : ∃ V,V = Value.slice (some ⟨u2.heap.size,0,none⟩) 0 0:=⟨_,rfl⟩
     obtain ⟨u3,hu3⟩ : ∃ U,U = u2.alloc (.cells #[] 62):=⟨_,rfl⟩
     rw [<- hv3] at O3 ⊢
     rw [<- hu3] at S3 O3 P3T ⊢
     clear hu3 hv3
     refine TillZ.one (i:=9) (by kernel_rfl) ?_
     refine append_opz imE imD (i:=9) (.tmp 9) (.tmp 11) 41 rfl rfl rfl rfl 62 i2 _ 40 Tryz.underlying41 hi2 hz2 hs2 hy2 rfl (by decide) (by decide) (w.heap.size + 2) v3 0 [] rfl O3 a2 n2 a4 is rfl (HR.out.below (HSB.out _ S3)).i (by have:=HSZ.out _ S3;omega) (by omega) (by omega) (fun v4 u4 O4 G4 => ?_)
     simp only [pS,List.set,zT,zZ,zU]
     rw [Nat.zero_add,List.nil_append] at O4
     have S4:=HSg.out _ _ _ S3 G4 (fun q hq => by have:=(O3.lt q hq).1;omega)
     have P4T:=own_grown P3T G4 (own_types P3T O3 (by decide))
     refine ⟨S4,?_⟩
     obtain ⟨b1,b3,rfl⟩:=own_shape P4T
     obtain ⟨b2,b4,rfl⟩:=own_shape O4
     refine TillZ.one (i:=10) (by kernel_rfl) ?_
     refine TillZ.opz (i:=10) (v:=.agg #[.int .i64 c0,.int .i64 c1,.int .i64 c2,.int .i64 c3,.slice b1 n1 b3,.slice b2 n2 b4]) (w':=u4) rfl rfl rfl (by go_simp) S4 ?_
     simp only [pS,List.set,zT,zZ,zU]
     have x0:=(HSC.out _ S4).cell 0 _ rfl
     have f0:=(HSC.out _ S4).free 0
     have x1:=(HSC.out _ S4).cell 1 _ rfl
     have f1:=(HSC.out _ S4).free 1
     have x2:=(HSC.out _ S4).cell 2 _ rfl
     have f2:=(HSC.out _ S4).free 2
     have x3:=(HSC.out _ S4).cell 3 _ rfl
     have f3:=(HSC.out _ S4).free 3
     have x4:=(HSC.out _ S4).cell 4 _ rfl
     have f4:=(HSC.out _ S4).free 4
     have x5:=(HSC.out _ S4).cell 5 _ rfl
     have f5:=(HSC.out _ S4).free 5
     refine TillZ.hand_skip (w':=(((((u4.setCell ⟨w.heap.size + 1,0,none⟩ (.int .i64 c0)).setCell ⟨w.heap.size + 1,1,none⟩ (.int .i64 c1)).setCell ⟨w.heap.size + 1,2,none⟩ (.int .i64 c2)).setCell ⟨w.heap.size + 1,3,none⟩ (.int .i64 c3)).setCell ⟨w.heap.size + 1,4,none⟩ (.slice b1 n1 b3)).setCell ⟨w.heap.size + 1,5,none⟩ (.slice b2 n2 b4)) (by kernel_rfl) rfl rfl (by go_simp) ?_
     simp only [pN,zT,zZ,zU]
     refine TillZ.any_done (by kernel_rfl) ?_ _
     have hX:=(((((((HSC.out _ S4).set (j:=0) (by simp) (.int .i64 c0)).set (j:=1) (by simp) (.int .i64 c1)).set (j:=2) (by simp) (.int .i64 c2)).set (j:=3) (by simp) (.int .i64 c3)).set (j:=4) (by simp) (.slice b1 n1 b3)).set (j:=5) (by simp) (.slice b2 n2 b4))
     have HXB:=qH (((((((HSB.out _ S4).setCell (p:=⟨w.heap.size + 1,0,none⟩) (by dsimp only;omega) (.int .i64 c0)).setCell (p:=⟨w.heap.size + 1,1,none⟩) (by dsimp only;omega) (.int .i64 c1)).setCell (p:=⟨w.heap.size + 1,2,none⟩) (by dsimp only;omega) (.int .i64 c2)).setCell (p:=⟨w.heap.size + 1,3,none⟩) (by dsimp only;omega) (.int .i64 c3)).setCell (p:=⟨w.heap.size + 1,4,none⟩) (by dsimp only;omega) (.slice b1 n1 b3)).setCell (p:=⟨w.heap.size + 1,5,none⟩) (by dsimp only;omega) (.slice b2 n2 b4))
     have HXT:=qH (own_other (own_other (own_other (own_other (own_other (own_other (own_mono P4T (show w.heap.size <= w.heap.size + 2 by omega)) (b:=w.heap.size + 1) (fun q hq => by have:=(P4T.lt q hq).1;omega) ⟨w.heap.size + 1,0,none⟩ (.int .i64 c0) rfl) (b:=w.heap.size + 1) (fun q hq => by have:=(P4T.lt q hq).1;omega) ⟨w.heap.size + 1,1,none⟩ (.int .i64 c1) rfl) (b:=w.heap.size + 1) (fun q hq => by have:=(P4T.lt q hq).1;omega) ⟨w.heap.size + 1,2,none⟩ (.int .i64 c2) rfl) (b:=w.heap.size + 1) (fun q hq => by have:=(P4T.lt q hq).1;omega) ⟨w.heap.size + 1,3,none⟩ (.int .i64 c3) rfl) (b:=w.heap.size + 1) (fun q hq => by have:=(P4T.lt q hq).1;omega) ⟨w.heap.size + 1,4,none⟩ (.slice b1 n1 b3) rfl) (b:=w.heap.size + 1) (fun q hq => by have:=(P4T.lt q hq).1;omega) ⟨w.heap.size + 1,5,none⟩ (.slice b2 n2 b4) rfl)
     have HXI:=qH (own_other (own_other (own_other (own_other (own_other (own_other (own_mono O4 (show w.heap.size <= w.heap.size + 2 by omega)) (b:=w.heap.size + 1) (fun q hq => by have:=(O4.lt q hq).1;omega) ⟨w.heap.size + 1,0,none⟩ (.int .i64 c0) rfl) (b:=w.heap.size + 1) (fun q hq => by have:=(O4.lt q hq).1;omega) ⟨w.heap.size + 1,1,none⟩ (.int .i64 c1) rfl) (b:=w.heap.size + 1) (fun q hq => by have:=(O4.lt q hq).1;omega) ⟨w.heap.size + 1,2,none⟩ (.int .i64 c2) rfl) (b:=w.heap.size + 1) (fun q hq => by have:=(O4.lt q hq).1;omega) ⟨w.heap.size + 1,3,none⟩ (.int .i64 c3) rfl) (b:=w.heap.size + 1) (fun q hq => by have:=(O4.lt q hq).1;omega) ⟨w.heap.size + 1,4,none⟩ (.slice b1 n1 b3) rfl) (b:=w.heap.size + 1) (fun q hq => by have:=(O4.lt q hq).1;omega) ⟨w.heap.size + 1,5,none⟩ (.slice b2 n2 b4) rfl)
     generalize ((((((u4.setCell ⟨w.heap.size + 1,0,none⟩ (.int .i64 c0)).setCell ⟨w.heap.size + 1,1,none⟩ (.int .i64 c1)).setCell ⟨w.heap.size + 1,2,none⟩ (.int .i64 c2)).setCell ⟨w.heap.size + 1,3,none⟩ (.int .i64 c3)).setCell ⟨w.heap.size + 1,4,none⟩ (.slice b1 n1 b3)).setCell ⟨w.heap.size + 1,5,none⟩ (.slice b2 n2 b4)) = X at *
     have g0:=hX.cell 0 _ rfl
     have g1:=hX.cell 1 _ rfl
     have g2:=hX.cell 2 _ rfl
     have g3:=hX.cell 3 _ rfl
     have g4:=hX.cell 4 _ rfl
     have g5:=hX.cell 5 _ rfl
     clear hX x0 f0 x1 f1 x2 f2 x3 f3 x4 f4 x5 f5
     go_wp2_with fail
     exact bodyPost_ret (v:=.agg #[.int .i64 c0,.int .i64 c1,.int .i64 c2,.int .i64 c3,.slice b1 n1 b3,.slice b2 n2 b4]) (by simp [results,Tryz.results116,go_sem,g0,g1,g2,g3,g4,g5]) rfl ⟨b1,n1,b3,b2,n2,b4,rfl,⟨HXT.out,HXI.out⟩,HXB.out⟩
   · skip
     refine TillZ.opz (i:=6) (v:=.slice (some ⟨u1.heap.size,0,none⟩) 0 0) (w':=u1.alloc (.cells #[] 62)) rfl rfl rfl (by go_simp) (HSa.out _ _ S1) ?_
     simp only [pS,List.set,zT,zZ,zU]
     have S5:=HSa.out _ (.cells #[] 62) S1
     have O5:=own_made0 imE u1 62 (base:=w.heap.size + 2) (by have:=HSZ.out _ S1;omega)
     have P5T:=World.ownsRow.alloc O1 (.cells #[] 62)
     obtain ⟨v5,hv5⟩ : ∃ V,V = Value.slice (some ⟨u1.heap.size,0,none⟩) 0 0:=⟨_,rfl⟩
     obtain ⟨u5,hu5⟩ : ∃ U,U = u1.alloc (.cells #[] 62):=⟨_,rfl⟩
     rw [<- hv5] at O5 ⊢
     rw [<- hu5] at S5 O5 P5T ⊢
     clear hu5 hv5
     refine TillZ.one (i:=5) (by kernel_rfl) ?_
     refine append_opz tmE tmD (i:=5) (.tmp 5) (.tmp 7) 40 rfl rfl rfl rfl 97 i1 _ 24 Tryz.underlying40 hi1 hz1 hs1 hy1 rfl (by decide) (by decide) (w.heap.size + 2) v1 0 [] rfl P5T a1 n1 a3 ts rfl (HR.out.below (HSB.out _ S5)).t (by have:=HSZ.out _ S5;omega) (by omega) (by omega) (fun v6 u6 O6 G6 => ?_)
     simp only [pS,List.set,zT,zZ,zU]
     rw [Nat.zero_add,List.nil_append] at O6
     have S6:=HSg.out _ _ _ S5 G6 (fun q hq => by have:=(P5T.lt q hq).1;omega)
     have P6I:=own_grown O5 G6 (own_types O5 P5T (by decide))
     refine ⟨S6,?_⟩
     refine TillZ.one (i:=9) (by kernel_rfl) ?_
     refine append_opz imE imD (i:=9) (.tmp 9) (.tmp 11) 41 rfl rfl rfl rfl 62 i2 _ 40 Tryz.underlying41 hi2 hz2 hs2 hy2 rfl (by decide) (by decide) (w.heap.size + 2) v5 0 [] rfl P6I a2 n2 a4 is rfl (HR.out.below (HSB.out _ S6)).i (by have:=HSZ.out _ S6;omega) (by omega) (by omega) (fun v7 u7 O7 G7 => ?_)
     simp only [pS,List.set,zT,zZ,zU]
     rw [Nat.zero_add,List.nil_append] at O7
     have S7:=HSg.out _ _ _ S6 G7 (fun q hq => by have:=(P6I.lt q hq).1;omega)
     have P7T:=own_grown O6 G7 (own_types O6 P6I (by decide))
     refine ⟨S7,?_⟩
     obtain ⟨b1,b3,rfl⟩:=own_shape P7T
     obtain ⟨b2,b4,rfl⟩:=own_shape O7
     refine TillZ.one (i:=10) (by kernel_rfl) ?_
     refine TillZ.opz (i:=10) (v:=.agg #[.int .i64 c0,.int .i64 c1,.int .i64 c2,.int .i64 c3,.slice b1 n1 b3,.slice b2 n2 b4]) (w':=u7) rfl rfl rfl (by go_simp) S7 ?_
     simp only [pS,List.set,zT,zZ,zU]
     have x0:=(HSC.out _ S7).cell 0 _ rfl
     have f0:=(HSC.out _ S7).free 0
     have x1:=(HSC.out _ S7).cell 1 _ rfl
     have f1:=(HSC.out _ S7).free 1
     have x2:=(HSC.out _ S7).cell 2 _ rfl
     have f2:=(HSC.out _ S7).free 2
     have x3:=(HSC.out _ S7).cell 3 _ rfl
     have f3:=(HSC.out _ S7).free 3
     have x4:=(HSC.out _ S7).cell 4 _ rfl
     have f4:=(HSC.out _ S7).free 4
     have x5:=(HSC.out _ S7).cell 5 _ rfl
     have f5:=(HSC.out _ S7).free 5
     refine TillZ.hand_skip (w':=(((((u7.setCell ⟨w.heap.size + 1,0,none⟩ (.int .i64 c0)).setCell ⟨w.heap.size + 1,1,none⟩ (.int .i64 c1)).setCell ⟨w.heap.size + 1,2,none⟩ (.int .i64 c2)).setCell ⟨w.heap.size + 1,3,none⟩ (.int .i64 c3)).setCell ⟨w.heap.size + 1,4,none⟩ (.slice b1 n1 b3)).setCell ⟨w.heap.size + 1,5,none⟩ (.slice b2 n2 b4)) (by kernel_rfl) rfl rfl (by go_simp) ?_
     simp only [pN,zT,zZ,zU]
     refine TillZ.any_done (by kernel_rfl) ?_ _
     have hX:=(((((((HSC.out _ S7).set (j:=0) (by simp) (.int .i64 c0)).set (j:=1) (by simp) (.int .i64 c1)).set (j:=2) (by simp) (.int .i64 c2)).set (j:=3) (by simp) (.int .i64 c3)).set (j:=4) (by simp) (.slice b1 n1 b3)).set (j:=5) (by simp) (.slice b2 n2 b4))
     have HXB:=qH (((((((HSB.out _ S7).setCell (p:=⟨w.heap.size + 1,0,none⟩) (by dsimp only;omega) (.int .i64 c0)).setCell (p:=⟨w.heap.size + 1,1,none⟩) (by dsimp only;omega) (.int .i64 c1)).setCell (p:=⟨w.heap.size + 1,2,none⟩) (by dsimp only;omega) (.int .i64 c2)).setCell (p:=⟨w.heap.size + 1,3,none⟩) (by dsimp only;omega) (.int .i64 c3)).setCell (p:=⟨w.heap.size + 1,4,none⟩) (by dsimp only;omega) (.slice b1 n1 b3)).setCell (p:=⟨w.heap.size + 1,5,none⟩) (by dsimp only;omega) (.slice b2 n2 b4))
     have HXT:=qH (own_other (own_other (own_other (own_other (own_other (own_other (own_mono P7T (show w.heap.size <= w.heap.size + 2 by omega)) (b:=w.heap.size + 1) (fun q hq => by have:=(P7T.lt q hq).1;omega) ⟨w.heap.size + 1,0,none⟩ (.int .i64 c0) rfl) (b:=w.heap.size + 1) (fun q hq => by have:=(P7T.lt q hq).1;omega) ⟨w.heap.size + 1,1,none⟩ (.int .i64 c1) rfl) (b:=w.heap.size + 1) (fun q hq => by have:=(P7T.lt q hq).1;omega) ⟨w.heap.size + 1,2,none⟩ (.int .i64 c2) rfl) (b:=w.heap.size + 1) (fun q hq => by have:=(P7T.lt q hq).1;omega) ⟨w.heap.size + 1,3,none⟩ (.int .i64 c3) rfl) (b:=w.heap.size + 1) (fun q hq => by have:=(P7T.lt q hq).1;omega) ⟨w.heap.size + 1,4,none⟩ (.slice b1 n1 b3) rfl) (b:=w.heap.size + 1) (fun q hq => by have:=(P7T.lt q hq).1;omega) ⟨w.heap.size + 1,5,none⟩ (.slice b2 n2 b4) rfl)
     have HXI:=qH (own_other (own_other (own_other (own_other (own_other (own_other (own_mono O7 (show w.heap.size <= w.heap.size + 2 by omega)) (b:=w.heap.size + 1) (fun q hq => by have:=(O7.lt q hq).1;omega) ⟨w.heap.size + 1,0,none⟩ (.int .i64 c0) rfl) (b:=w.heap.size + 1) (fun q hq => by have:=(O7.lt q hq).1;omega) ⟨w.heap.size + 1,1,none⟩ (.int .i64 c1) rfl) (b:=w.heap.size + 1) (fun q hq => by have:=(O7.lt q hq).1;omega) ⟨w.heap.size + 1,2,none⟩ (.int .i64 c2) rfl) (b:=w.heap.size + 1) (fun q hq => by have:=(O7.lt q hq).1;omega) ⟨w.heap.size + 1,3,none⟩ (.int .i64 c3) rfl) (b:=w.heap.size + 1) (fun q hq => by have:=(O7.lt q hq).1;omega) ⟨w.heap.size + 1,4,none⟩ (.slice b1 n1 b3) rfl) (b:=w.heap.size + 1) (fun q hq => by have:=(O7.lt q hq).1;omega) ⟨w.heap.size + 1,5,none⟩ (.slice b2 n2 b4) rfl)
     generalize ((((((u7.setCell ⟨w.heap.size + 1,0,none⟩ (.int .i64 c0)).setCell ⟨w.heap.size + 1,1,none⟩ (.int .i64 c1)).setCell ⟨w.heap.size + 1,2,none⟩ (.int .i64 c2)).setCell ⟨w.heap.size + 1,3,none⟩ (.int .i64 c3)).setCell ⟨w.heap.size + 1,4,none⟩ (.slice b1 n1 b3)).setCell ⟨w.heap.size + 1,5,none⟩ (.slice b2 n2 b4)) = X at *
     have g0:=hX.cell 0 _ rfl
     have g1:=hX.cell 1 _ rfl
     have g2:=hX.cell 2 _ rfl
     have g3:=hX.cell 3 _ rfl
     have g4:=hX.cell 4 _ rfl
     have g5:=hX.cell 5 _ rfl
     clear hX x0 f0 x1 f1 x2 f2 x3 f3 x4 f4 x5 f5
     go_wp2_with fail
     exact bodyPost_ret (v:=.agg #[.int .i64 c0,.int .i64 c1,.int .i64 c2,.int .i64 c3,.slice b1 n1 b3,.slice b2 n2 b4]) (by simp [results,Tryz.results116,go_sem,g0,g1,g2,g3,g4,g5]) rfl ⟨b1,n1,b3,b2,n2,b4,rfl,⟨HXT.out,HXI.out⟩,HXB.out⟩
 · skip
   refine TillZ.opz (i:=6) (v:=.slice (some ⟨u0.heap.size,0,none⟩) 0 0) (w':=u0.alloc (.cells #[] 62)) rfl rfl rfl (by go_simp) (HSa.out _ _ hS0) ?_
   simp only [pS,List.set,zT,zZ,zU]
   have S8:=HSa.out _ (.cells #[] 62) hS0
   have O8:=own_made0 imE u0 62 (base:=w.heap.size + 2) (by have:=HSZ.out _ hS0;omega)
   obtain ⟨v8,hv8⟩ : ∃ V,V = Value.slice (some ⟨u0.heap.size,0,none⟩) 0 0:=⟨_,rfl⟩
   obtain ⟨u8,hu8⟩ : ∃ U,U = u0.alloc (.cells #[] 62):=⟨_,rfl⟩
   rw [<- hv8] at O8 ⊢
   rw [<- hu8] at S8 O8 ⊢
   clear hu8 hv8
   refine TillZ.one (i:=2) (by kernel_rfl) ?_
   refine TillZ.opz (i:=2) (v:=.slice (some ⟨u8.heap.size,0,none⟩) 0 0) (w':=u8.alloc (.cells #[] 97)) rfl rfl rfl (by go_simp) (HSa.out _ _ S8) ?_
   simp only [pS,List.set,zT,zZ,zU]
   have S9:=HSa.out _ (.cells #[] 97) S8
   have O9:=own_made0 tmE u8 97 (base:=w.heap.size + 2) (by have:=HSZ.out _ S8;omega)
   have P9I:=World.ownsRow.alloc O8 (.cells #[] 97)
   obtain ⟨v9,hv9⟩ : ∃ V,V = Value.slice (some ⟨u8.heap.size,0,none⟩) 0 0:=⟨_,rfl⟩
   obtain ⟨u9,hu9⟩ : ∃ U,U = u8.alloc (.cells #[] 97):=⟨_,rfl⟩
   rw [<- hv9] at O9 ⊢
   rw [<- hu9] at S9 O9 P9I ⊢
   clear hu9 hv9
   refine TillZ.one (i:=5) (by kernel_rfl) ?_
   refine append_opz tmE tmD (i:=5) (.tmp 5) (.tmp 7) 40 rfl rfl rfl rfl 97 i1 _ 24 Tryz.underlying40 hi1 hz1 hs1 hy1 rfl (by decide) (by decide) (w.heap.size + 2) v9 0 [] rfl O9 a1 n1 a3 ts rfl (HR.out.below (HSB.out _ S9)).t (by have:=HSZ.out _ S9;omega) (by omega) (by omega) (fun v10 u10 O10 G10 => ?_)
   simp only [pS,List.set,zT,zZ,zU]
   rw [Nat.zero_add,List.nil_append] at O10
   have S10:=HSg.out _ _ _ S9 G10 (fun q hq => by have:=(O9.lt q hq).1;omega)
   have P10I:=own_grown P9I G10 (own_types P9I O9 (by decide))
   refine ⟨S10,?_⟩
   refine TillZ.one (i:=9) (by kernel_rfl) ?_
   refine append_opz imE imD (i:=9) (.tmp 9) (.tmp 11) 41 rfl rfl rfl rfl 62 i2 _ 40 Tryz.underlying41 hi2 hz2 hs2 hy2 rfl (by decide) (by decide) (w.heap.size + 2) v8 0 [] rfl P10I a2 n2 a4 is rfl (HR.out.below (HSB.out _ S10)).i (by have:=HSZ.out _ S10;omega) (by omega) (by omega) (fun v11 u11 O11 G11 => ?_)
   simp only [pS,List.set,zT,zZ,zU]
   rw [Nat.zero_add,List.nil_append] at O11
   have S11:=HSg.out _ _ _ S10 G11 (fun q hq => by have:=(P10I.lt q hq).1;omega)
   have P11T:=own_grown O10 G11 (own_types O10 P10I (by decide))
   refine ⟨S11,?_⟩
   obtain ⟨b1,b3,rfl⟩:=own_shape P11T
   obtain ⟨b2,b4,rfl⟩:=own_shape O11
   refine TillZ.one (i:=10) (by kernel_rfl) ?_
   refine TillZ.opz (i:=10) (v:=.agg #[.int .i64 c0,.int .i64 c1,.int .i64 c2,.int .i64 c3,.slice b1 n1 b3,.slice b2 n2 b4]) (w':=u11) rfl rfl rfl (by go_simp) S11 ?_
   simp only [pS,List.set,zT,zZ,zU]
   have x0:=(HSC.out _ S11).cell 0 _ rfl
   have f0:=(HSC.out _ S11).free 0
   have x1:=(HSC.out _ S11).cell 1 _ rfl
   have f1:=(HSC.out _ S11).free 1
   have x2:=(HSC.out _ S11).cell 2 _ rfl
   have f2:=(HSC.out _ S11).free 2
   have x3:=(HSC.out _ S11).cell 3 _ rfl
   have f3:=(HSC.out _ S11).free 3
   have x4:=(HSC.out _ S11).cell 4 _ rfl
   have f4:=(HSC.out _ S11).free 4
   have x5:=(HSC.out _ S11).cell 5 _ rfl
   have f5:=(HSC.out _ S11).free 5
   refine TillZ.hand_skip (w':=(((((u11.setCell ⟨w.heap.size + 1,0,none⟩ (.int .i64 c0)).setCell ⟨w.heap.size + 1,1,none⟩ (.int .i64 c1)).setCell ⟨w.heap.size + 1,2,none⟩ (.int .i64 c2)).setCell ⟨w.heap.size + 1,3,none⟩ (.int .i64 c3)).setCell ⟨w.heap.size + 1,4,none⟩ (.slice b1 n1 b3)).setCell ⟨w.heap.size + 1,5,none⟩ (.slice b2 n2 b4)) (by kernel_rfl) rfl rfl (by go_simp) ?_
   simp only [pN,zT,zZ,zU]
   refine TillZ.any_done (by kernel_rfl) ?_ _
   have hX:=(((((((HSC.out _ S11).set (j:=0) (by simp) (.int .i64 c0)).set (j:=1) (by simp) (.int .i64 c1)).set (j:=2) (by simp) (.int .i64 c2)).set (j:=3) (by simp) (.int .i64 c3)).set (j:=4) (by simp) (.slice b1 n1 b3)).set (j:=5) (by simp) (.slice b2 n2 b4))
   have HXB:=qH (((((((HSB.out _ S11).setCell (p:=⟨w.heap.size + 1,0,none⟩) (by dsimp only;omega) (.int .i64 c0)).setCell (p:=⟨w.heap.size + 1,1,none⟩) (by dsimp only;omega) (.int .i64 c1)).setCell (p:=⟨w.heap.size + 1,2,none⟩) (by dsimp only;omega) (.int .i64 c2)).setCell (p:=⟨w.heap.size + 1,3,none⟩) (by dsimp only;omega) (.int .i64 c3)).setCell (p:=⟨w.heap.size + 1,4,none⟩) (by dsimp only;omega) (.slice b1 n1 b3)).setCell (p:=⟨w.heap.size + 1,5,none⟩) (by dsimp only;omega) (.slice b2 n2 b4))
   have HXT:=qH (own_other (own_other (own_other (own_other (own_other (own_other (own_mono P11T (show w.heap.size <= w.heap.size + 2 by omega)) (b:=w.heap.size + 1) (fun q hq => by have:=(P11T.lt q hq).1;omega) ⟨w.heap.size + 1,0,none⟩ (.int .i64 c0) rfl) (b:=w.heap.size + 1) (fun q hq => by have:=(P11T.lt q hq).1;omega) ⟨w.heap.size + 1,1,none⟩ (.int .i64 c1) rfl) (b:=w.heap.size + 1) (fun q hq => by have:=(P11T.lt q hq).1;omega) ⟨w.heap.size + 1,2,none⟩ (.int .i64 c2) rfl) (b:=w.heap.size + 1) (fun q hq => by have:=(P11T.lt q hq).1;omega) ⟨w.heap.size + 1,3,none⟩ (.int .i64 c3) rfl) (b:=w.heap.size + 1) (fun q hq => by have:=(P11T.lt q hq).1;omega) ⟨w.heap.size + 1,4,none⟩ (.slice b1 n1 b3) rfl) (b:=w.heap.size + 1) (fun q hq => by have:=(P11T.lt q hq).1;omega) ⟨w.heap.size + 1,5,none⟩ (.slice b2 n2 b4) rfl)
   have HXI:=qH (own_other (own_other (own_other (own_other (own_other (own_other (own_mono O11 (show w.heap.size <= w.heap.size + 2 by omega)) (b:=w.heap.size + 1) (fun q hq => by have:=(O11.lt q hq).1;omega) ⟨w.heap.size + 1,0,none⟩ (.int .i64 c0) rfl) (b:=w.heap.size + 1) (fun q hq => by have:=(O11.lt q hq).1;omega) ⟨w.heap.size + 1,1,none⟩ (.int .i64 c1) rfl) (b:=w.heap.size + 1) (fun q hq => by have:=(O11.lt q hq).1;omega) ⟨w.heap.size + 1,2,none⟩ (.int .i64 c2) rfl) (b:=w.heap.size + 1) (fun q hq => by have:=(O11.lt q hq).1;omega) ⟨w.heap.size + 1,3,none⟩ (.int .i64 c3) rfl) (b:=w.heap.size + 1) (fun q hq => by have:=(O11.lt q hq).1;omega) ⟨w.heap.size + 1,4,none⟩ (.slice b1 n1 b3) rfl) (b:=w.heap.size + 1) (fun q hq => by have:=(O11.lt q hq).1;omega) ⟨w.heap.size + 1,5,none⟩ (.slice b2 n2 b4) rfl)
   generalize ((((((u11.setCell ⟨w.heap.size + 1,0,none⟩ (.int .i64 c0)).setCell ⟨w.heap.size + 1,1,none⟩ (.int .i64 c1)).setCell ⟨w.heap.size + 1,2,none⟩ (.int .i64 c2)).setCell ⟨w.heap.size + 1,3,none⟩ (.int .i64 c3)).setCell ⟨w.heap.size + 1,4,none⟩ (.slice b1 n1 b3)).setCell ⟨w.heap.size + 1,5,none⟩ (.slice b2 n2 b4)) = X at *
   have g0:=hX.cell 0 _ rfl
   have g1:=hX.cell 1 _ rfl
   have g2:=hX.cell 2 _ rfl
   have g3:=hX.cell 3 _ rfl
   have g4:=hX.cell 4 _ rfl
   have g5:=hX.cell 5 _ rfl
   clear hX x0 f0 x1 f1 x2 f2 x3 f3 x4 f4 x5 f5
   go_wp2_with fail
   exact bodyPost_ret (v:=.agg #[.int .i64 c0,.int .i64 c1,.int .i64 c2,.int .i64 c3,.slice b1 n1 b3,.slice b2 n2 b4]) (by simp [results,Tryz.results116,go_sem,g0,g1,g2,g3,g4,g5]) rfl ⟨b1,n1,b3,b2,n2,b4,rfl,⟨HXT.out,HXI.out⟩,HXB.out⟩
end Go.Proofs.YthkbcjnbmciolaaGreatDoor
