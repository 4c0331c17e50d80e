/- Used by the law. -/
import Derived.Test.YtbgoldeopmlbnaaGreatDoorQB29
set_option maxRecDepth 100000
set_option maxHeartbeats 16000000
namespace Go.Proofs.YtbgoldeopmlbnaaGreatDoor
open Go.RowKit Go.PlainAid G MGF IRow MNum
set_option linter.unusedVariables false
structure SmallB (b : Bk) : Prop where
 t : b.ts.length <= 6
 i : b.is.length <= 13
 tt : ∀ x ∈ b.ts,x.lk.size <= 20
 ii : ∀ x ∈ b.is,x.nm.size <= 20 /\ x.bd.size <= 20
theorem smallB_of {b : Bk} (h : bookB b = true) : SmallB b /\ b.ts.length <= 5 /\ b.is.length <= 8:=by
 rcases bookB_of h with hz | hr
 · obtain ⟨_,h1,h2⟩:=zeroK_iff.1 hz
   refine ⟨⟨?_,?_,?_,?_⟩,?_,?_⟩ <;> simp [h1,h2]
 · refine ⟨⟨by have:=hr.len;omega,by have:=hr.many;omega,fun x hx => ?_,fun x hx => ?_⟩,hr.len.2,hr.many⟩
   · obtain ⟨i,hi,rfl⟩:=List.getElem_of_mem hx
     have:=(termB_iff.1 (hr.term i hi).1).2
     simp only [List.getD,List.getElem?_eq_getElem hi,Option.getD_some] at this
     omega
   · have:=itemB_iff.1 (hr.item x hx).1
     have h2:=wordB_size this.1
     exact ⟨by omega,by omega⟩
theorem SmallB.terms {b : Bk} (h : SmallB b) (hl : b.ts.length <= 5) (z : Int) : SmallB ⟨b.c0,b.c1,b.c2,b.c3,b.ts ++ [⟨z,⟨#[107]⟩⟩],b.is⟩ :=
 ⟨by simp;omega,h.i,fun x hx => by
  simp only [List.mem_append,List.mem_singleton] at hx
  rcases hx with hx | rfl
  · exact h.tt x hx
  · show (⟨#[107]⟩ : ByteArray).size <= 20;decide,h.ii⟩
theorem SmallB.items {b : Bk} (h : SmallB b) (hl : b.is.length <= 12) {x : ByteArray} (hx : x.size <= 20) (z : Int) : SmallB ⟨b.c0,b.c1,b.c2,b.c3,b.ts,b.is ++ [⟨x,z,⟨#[118]⟩⟩]⟩ :=
 ⟨h.t,by simp;omega,h.tt,fun y hy => by
  simp only [List.mem_append,List.mem_singleton] at hy
  rcases hy with hy | rfl
  · exact h.ii y hy
  · exact ⟨hx,show (⟨#[118]⟩ : ByteArray).size <= 20 by decide⟩⟩
def SomeBookS (w : World) (p cb co sl sc : Nat) (sa : Option Addr) (e : Ending) (w' : World) : Prop :=
 ∃ (b : Bk) (a1 : Option Addr) (n1 a3 : Nat) (a2 : Option Addr) (n2 a4 : Nat),e = .returned (.agg #[.int .i64 b.c0,.int .i64 b.c1,.int .i64 b.c2,.int .i64 b.c3,.slice a1 n1 a3,.slice a2 n2 a4]) /\ SmallB b /\ BkO w' w.heap.size a1 n1 a3 a2 n2 a4 b.ts b.is /\ DrawnC w w' p cb co sl sc sa
def KindAt (u : World) (g : Nat) (T : TypeId) : Prop:=∃ cs fz,u.heap[g]? = some (.cells cs T fz)
theorem KindAt.made (w : World) (cs : Array Value) (T : TypeId) : KindAt (w.alloc (.cells cs T)) w.heap.size T:=⟨cs,(0,0),by show (w.heap.push _)[w.heap.size]? = _;simp⟩
theorem KindAt.grown {w w' : World} {g : Nat} {T : TypeId} {row : Option Nat} (h : KindAt w g T) (hg : w.grownBy w' row) (hr : some g ≠ row) : KindAt w' g T:=by
 obtain ⟨cs,fz,e⟩:=h
 exact ⟨cs,fz,(hg.block g (Array.getElem?_eq_some_iff.1 e).1 hr).trans e⟩
theorem KindAt.below {w w' : World} {g : Nat} {T : TypeId} (h : KindAt w g T) (hb : Below w.heap.size w w') : KindAt w' g T:=by
 obtain ⟨cs,fz,e⟩:=h
 exact ⟨cs,fz,(hb.block g (Array.getElem?_eq_some_iff.1 e).1).trans e⟩
theorem own_kind {w : World} {base g : Nat} {e T : TypeId} {size : Nat} {v : Value} {n : Nat} {xs : List Value} (h : w.ownsRow base e size v n xs) (k : KindAt w g T) (hne : Nat.beq e T = false) : ∀ q,v.ownBlock = some q -> q ≠ g:=by
 intro q hq he
 subst he
 obtain ⟨cs,fz,hc⟩:=k
 rcases h.2 with ⟨rfl,_⟩ | ⟨g',cap,cur,rfl,_,hgg,_⟩
 · cases hq
 · simp only [Value.ownBlock,Option.some.injEq] at hq
   rw [hq,hc] at hgg
   injection hgg with hgg
   injection hgg with h1 h2 h3
   exact absurd h2.symm (Nat.ne_of_beq_eq_false hne)
theorem KindAt.set {w : World} {g : Nat} {T : TypeId} (h : KindAt w g T) (j : Nat) (v : Value) : KindAt (w.setCell ⟨g,j,none⟩ v) g T:=by
 obtain ⟨cs,fz,e⟩:=h
 have hlt:=(Array.getElem?_eq_some_iff.1 e).1
 refine ⟨cs.setIfInBounds j v,fz,?_⟩
 unfold World.setCell
 simp [Array.getElem?_modify,e]
structure GState (w u : World) (p cb co sl sc : Nat) (sa : Option Addr) (h g : Nat) (b : Bk) (a1 : Option Addr) (n1 a3 : Nat) (a2 : Option Addr) (n2 a4 : Nat) : Prop where
 z : BoxC u h [.int .i64 0,.int .i64 0,.int .i64 0,.int .i64 0,.slice none 0 0,.slice none 0 0]
 x : BoxC u g [.int .i64 b.c0,.int .i64 b.c1,.int .i64 b.c2,.int .i64 b.c3,.slice a1 n1 a3,.slice a2 n2 a4]
 k : KindAt u g 28
 o : BkO u (h + 1) a1 n1 a3 a2 n2 a4 b.ts b.is
 d : DrawnC w u p cb co sl sc sa
theorem GState.below {w u u' : World} {p cb co sl sc : Nat} {sa : Option Addr} {h g : Nat} {b : Bk} {a1 : Option Addr} {n1 a3 : Nat} {a2 : Option Addr} {n2 a4 : Nat} (s : GState w u p cb co sl sc sa h g b a1 n1 a3 a2 n2 a4) (hb : Below u.heap.size u u') : GState w u' p cb co sl sc sa h g b a1 n1 a3 a2 n2 a4 :=
 ⟨s.z.below hb,s.x.below hb,s.k.below hb,s.o.below hb,s.d.below hb⟩
theorem GState.drawn {w u u' : World} {p cb co sl sc : Nat} {sa : Option Addr} {h g : Nat} {b : Bk} {a1 : Option Addr} {n1 a3 : Nat} {a2 : Option Addr} {n2 a4 : Nat} (s : GState w u p cb co sl sc sa h g b a1 n1 a3 a2 n2 a4) (hD : DrawnC u u' p cb co sl sc sa) (h1 : some h ≠ some p) (h2 : some g ≠ some p) (hp : p < h + 1) : GState w u' p cb co sl sc sa h g b a1 n1 a3 a2 n2 a4 :=
 ⟨s.z.grown hD.gr h1,s.x.grown hD.gr h2,s.k.grown hD.gr h2,s.o.drawn hD.gr hp,s.d.trans hD⟩
theorem GState.far {w u : World} {p cb co sl sc : Nat} {sa : Option Addr} {h g : Nat} {b : Bk} {a1 : Option Addr} {n1 a3 : Nat} {a2 : Option Addr} {n2 a4 : Nat} (s : GState w u p cb co sl sc sa h g b a1 n1 a3 a2 n2 a4) : Far a1 n1 a3 a2 n2 a4 g :=
 ⟨own_kind s.o.t s.k rfl,own_kind s.o.i s.k rfl⟩
theorem book_c (p cb co sl sc : Nat) (sa : Option Addr) (w : World) (hS : SrcC w p cb co sl sc sa) :
 Calls Tryz.prog 27 #[.pointer (some ⟨p,0,none⟩)] w (SomeBookS w p cb co sl sc sa):=by
 have hp:=hS.lt
 have hcb:=hS.code
 obtain ⟨W,hW⟩ : ∃ W,W = w.alloc (.cells #[.int .i64 0,.int .i64 0,.int .i64 0,.int .i64 0,.slice none 0 0,.slice none 0 0] 28):=⟨_,rfl⟩
 obtain ⟨h,hh⟩ : ∃ h,h = w.heap.size:=⟨_,rfl⟩
 have HWZ:=qH (show W.heap.size = h + 1 by rw [hW,World.size_alloc,hh])
 have HZ0:=qH (show BoxC W h [.int .i64 0,.int .i64 0,.int .i64 0,.int .i64 0,.slice none 0 0,.slice none 0 0] by rw [hW,hh];exact BoxC.made _ _ _)
 have HD0:=qH (show DrawnC w W p cb co sl sc sa by rw [hW];exact (DrawnC.refl hS).below ((Below.refl _ _).alloc (Nat.le_refl _) _))
 have hne : some h ≠ some p:=by simp only [ne_eq,Option.some.injEq];omega
 have hhw : w.heap.size <= h:=by omega
 have hph : p < h + 1:=by omega
 have hhe : h <= w.heap.size:=by omega
 clear hS
 go_enter Tryz.func27,Tryz.ntmps27
 go_upto_region 1 with fail
 rw [<- hW,<- hh]
 clear hW hh
 go_wp2_with fail
 refine (bookOf_c p cb co sl sc sa W HD0.out.src).mono ?_
 rintro e w1 ⟨b,a1,n1,a3,a2,n2,a4,rfl,hbb,ho,hD⟩
 obtain ⟨HSM0,hl5,hl8⟩:=smallB_of hbb
 have HSM:=qH HSM0
 clear HSM0
 obtain ⟨W1,hW1⟩ : ∃ W1,W1 = w1.alloc (.cells #[.int .i64 b.c0,.int .i64 b.c1,.int .i64 b.c2,.int .i64 b.c3,.slice a1 n1 a3,.slice a2 n2 a4] 28):=⟨_,rfl⟩
 obtain ⟨g,hg⟩ : ∃ g,g = w1.heap.size:=⟨_,rfl⟩
 have hgh : h + 1 <= g:=by have:=hD.gr.size;have:=HWZ.out;omega
 have hne2 : some g ≠ some p:=by simp only [ne_eq,Option.some.injEq];omega
 have hgw : w.heap.size <= g:=by omega
 have HS1:=qH (show GState w W1 p cb co sl sc sa h g b a1 n1 a3 a2 n2 a4 by
  rw [hW1,hg]
  rw [HWZ.out] at ho
  have hal:=(Below.refl w1.heap.size w1).alloc (Nat.le_refl _) (.cells #[.int .i64 b.c0,.int .i64 b.c1,.int .i64 b.c2,.int .i64 b.c3,.slice a1 n1 a3,.slice a2 n2 a4] 28)
  exact ⟨(HZ0.out.grown hD.gr hne).below hal,BoxC.made _ _ _,KindAt.made _ _ _,ho.below hal,(HD0.out.trans hD).below hal⟩)
 clear hbb ho hD HZ0 HD0 HWZ
 go_upto_region 2 with fail
 rw [<- hW1,<- hg]
 clear hW1 hg
 go_wp2_with fail
 refine (n_c p cb co sl sc sa 12 _ HS1.out.d.src (by omega)).mono ?_
 rintro e w2 ⟨ra,rfl,ra0,ra1,hS1,hgr,hz⟩
 have rah : ra <= 11:=by omega
 have HS2:=qH (HS1.out.drawn ⟨hS1,hgr⟩ hne hne2 hph)
 clear ra1 hS1 hgr hz HS1
 by_cases k0 : ra = 0
 · subst k0
   obtain ⟨W3,hW3⟩ : ∃ W3,W3 = w2.alloc (.cells #[.int .i64 0,.int .i64 1,.int .i64 11] 2):=⟨_,rfl⟩
   obtain ⟨h3,hh3⟩ : ∃ h3,h3 = w2.heap.size:=⟨_,rfl⟩
   have HL3:=qH (show BoxC W3 h3 [.int .i64 0,.int .i64 1,.int .i64 11] by rw [hW3,hh3];exact BoxC.made _ _ _)
   have HS3:=qH (show GState w W3 p cb co sl sc sa h g b a1 n1 a3 a2 n2 a4 by rw [hW3];exact HS2.out.below ((Below.refl _ _).alloc (Nat.le_refl _) _))
   have hne4 : some h3 ≠ some p:=by have:=HS2.out.d.gr.size;simp only [ne_eq,Option.some.injEq];omega
   clear HS2
   go_wp2_with fail
   rw [<- hW3,<- hh3]
   clear hW3 hh3
   refine (n_c p cb co sl sc sa 3 _ HS3.out.d.src (by omega)).mono ?_
   rintro e w4 ⟨rb,rfl,rb0,rb1,hS1,hgr,hz⟩
   have rbh : rb <= 2:=by omega
   have HS4:=qH (HS3.out.drawn ⟨hS1,hgr⟩ hne hne2 hph)
   have HL4:=qH (HL3.out.grown hgr hne4)
   clear rb1 hS1 hgr hz HS3 HL3
   obtain ⟨j,rfl⟩ : ∃ j : Nat,rb = j:=⟨rb.toNat,by omega⟩
   obtain ⟨cz,hcz⟩ : ∃ cz : Int,w4.cell? ⟨h3,j,none⟩ = some (.int .i64 cz):=by
    have hj : j = 0 ∨ j = 1 ∨ j = 2:=by omega
    rcases hj with rfl | rfl | rfl
    · exact ⟨_,HL4.out.cell 0 _ rfl⟩
    · exact ⟨_,HL4.out.cell 1 _ rfl⟩
    · exact ⟨_,HL4.out.cell 2 _ rfl⟩
   have hin : 0 <= (j : Int) /\ (j : Int) < 3:=by omega
   have y1:=HS4.out.x.cell 1 _ rfl
   have g1:=HS4.out.x.free 1
   obtain ⟨b',hb'⟩ : ∃ b',b' = Bk.mk b.c0 cz b.c2 b.c3 b.ts b.is:=⟨_,rfl⟩
   have HSB:=qH (show SmallB b' by rw [hb'];exact ⟨HSM.out.t,HSM.out.i,HSM.out.tt,HSM.out.ii⟩)
   have hgs : w4.grownBy (w4.setCell ⟨g,1,none⟩ (.int .i64 cz)) (some g):=set_grown w4 g 1 _
   have HXX:=qH (show BoxC (w4.setCell ⟨g,1,none⟩ (.int .i64 cz)) g [.int .i64 b'.c0,.int .i64 b'.c1,.int .i64 b'.c2,.int .i64 b'.c3,.slice a1 n1 a3,.slice a2 n2 a4] by rw [hb'];exact HS4.out.x.set (j:=1) (by simp) (.int .i64 cz))
   have HZX:=qH (HS4.out.z.grown hgs (by simp only [ne_eq,Option.some.injEq];omega))
   have HOX:=qH (show BkO (w4.setCell ⟨g,1,none⟩ (.int .i64 cz)) (h + 1) a1 n1 a3 a2 n2 a4 b'.ts b'.is by rw [hb'];exact HS4.out.o.grownF hgs HS4.out.far)
   have HDX:=qH (HS4.out.d.row hp hcb hgs (fun k hk => by cases hk;exact hgw))
   go_upto_region 15 with fail
   generalize w4.setCell ⟨g,1,none⟩ (.int .i64 cz) = Y at *
   clear y1 g1 hcz HS4 hgs hb' 
   obtain ⟨vl,hvl⟩ : ∃ vl : List Value,vl = [.int .i64 b'.c0,.int .i64 b'.c1,.int .i64 b'.c2,.int .i64 b'.c3,.slice a1 n1 a3,.slice a2 n2 a4]:=⟨_,rfl⟩
   have HVE:=qH hvl
   have HVL:=qH (show vl.length = 6 by rw [hvl];rfl)
   have HVO:=qH (show vl.all (·.oneCell') = true by rw [hvl];rfl)
   clear hvl
   have HEV:=qH (show BoxC _ g vl by rw [HVE.out];exact HXX.out)
   have HY:=qH (box_setCells HZX.out vl HVL.out)
   have hgr:=setCells_grown h vl 0
   have HDF:=qH (HDX.out.row hp hcb (hgr _) (fun k hk => by cases hk;exact hhw))
   have HBF:=qH ((HOX.out.grownF (hgr _) (HOX.out.far (Nat.lt_succ_self h))).mono (show w.heap.size <= h + 1 by omega))
   clear hgr
   go_wp2_with (first | (refine list_load HEV.out 28 _ 6 rfl rfl rfl HVL.out (by kernel_rfl) ?_;simp only [pS,List.set]) | (refine list_store (vs:=vl) HZX.out 28 _ _ 6 rfl rfl rfl rfl rfl HVL.out HVO.out (by kernel_rfl) ?_;simp only [pN]))
   exact bodyPost_ret (v:=.agg vl.toArray) (results_box HY.out Tryz.results27 rfl HVL.out (by kernel_rfl)) rfl ⟨b',_,_,_,_,_,_,by rw [HVE.out],HSB.out,HBF.out,HDF.out⟩
 by_cases k1 : ra = 1
 · subst k1
   have hmx : Tryz.prog.follows .mixedOrders = true:=by kernel_rfl
   go_upto_region 6 with fail
   refine TillZ.region (t:=8) hmx (fun u => BoxC u g [.int .i64 b.c0,.int .i64 b.c1,.int .i64 b.c2,.int .i64 b.c3,.slice a1 n1 a3,.slice a2 n2 a4]) ?_
   have HSu:=qH (HS2.out.below (Below.refl w2.heap.size w2).drew)
   refine TillZ.take4 (i:=0) (v:=.pointer (some ⟨g,4,none⟩)) rfl rfl rfl (by kernel_rfl) HSu.out.x (fun u hu => by go_simp) ?_
   simp only [pS,List.set,zT,zZ]
   refine TillZ.take4 (i:=1) (v:=.slice a1 n1 a3) rfl rfl rfl (by kernel_rfl) HSu.out.x (fun u hu => by have z4:=hu.cell 4 _ rfl;go_simp) ?_
   simp only [pS,List.set,zT,zZ,zU]
   refine TillZ.take4 (i:=2) (v:=.pointer (some ⟨p,0,none⟩)) rfl rfl rfl (by kernel_rfl) HSu.out.x (fun u hu => by go_simp) ?_
   simp only [pS,List.set,zT,zZ,zU]
   generalize hu0 : w2.drew = u0 at *
   clear hu0 HS2
   refine TillZ.one (i:=3) (by kernel_rfl) ?_
   refine TillZ.callz (i:=3) (f:=28) (args:=#[.pointer (some ⟨p,0,none⟩),.int .i64 5]) rfl rfl rfl (by go_simp) ?_
   refine Calls.mono (n_c p cb co sl sc sa 5 u0 HSu.out.d.src (by omega)) ?_
   rintro e ua ⟨rb,rfl,rb0,rb1,hS1,hgr,hz⟩
   have HSa:=qH (HSu.out.drawn ⟨hS1,hgr⟩ hne hne2 hph)
   clear rb0 rb1 hS1 hgr hz HSu
   refine ⟨_,rfl,HSa.out.x,?_⟩
   simp only [pS,List.set,zT,zZ,zU]
   refine TillZ.value (i:=4) (v:=.agg #[.int .i64 rb,.string ⟨#[107]⟩]) (by kernel_rfl) rfl rfl rfl (by go_simp) HSa.out.x ?_
   simp only [pS,List.set,zT,zZ,zU]
   refine TillZ.one (i:=5) (by kernel_rfl) ?_
   refine TillZ.opz (i:=5) (v:=.slice (some ⟨ua.heap.size,0,none⟩) 1 1) (w':=ua.alloc (.cells #[.int .i64 rb,.string ⟨#[107]⟩] 30)) rfl rfl rfl (by go_simp) (HSa.out.below ((Below.refl _ _).alloc (Nat.le_refl _) _)).x ?_
   simp only [pS,List.set,zT,zZ,zU]
   have HSb:=qH (HSa.out.below ((Below.refl _ _).alloc (Nat.le_refl _) (.cells #[.int .i64 rb,.string ⟨#[107]⟩] 30)))
   have HLb:=qH (show SR tmE tmD (ua.alloc (.cells #[.int .i64 rb,.string ⟨#[107]⟩] 30)) (some ⟨ua.heap.size,0,none⟩) 1 1 [⟨rb,⟨#[107]⟩⟩] from SR.own (by decide) (World.ownsRow_lit ua #[.int .i64 rb,.string ⟨#[107]⟩] 1 (Nat.le_refl _) (by decide) rfl))
   generalize ua.alloc (.cells #[.int .i64 rb,.string ⟨#[107]⟩] 30) = ub at *
   generalize ua.heap.size = lb at *
   clear HSa
   have hlt1 : n1 = b.ts.length:=HSb.out.o.len.1.symm
   have hsz : h + 1 <= ub.heap.size:=by have:=HSb.out.x.lt;omega
   obtain ⟨i0,hi,hz0,hz1,hz2⟩:=info_parts infoTerm
   refine TillZ.one (i:=6) (by kernel_rfl) ?_
   refine append_opz tmE tmD (i:=6) (.tmp 22) (.tmp 26) 25 rfl rfl rfl rfl 30 i0 _ 24 Tryz.underlying25 hi hz0 hz1 hz2 rfl (by decide) (by decide) (h + 1) (.slice a1 n1 a3) n1 b.ts rfl HSb.out.o.t _ 1 1 [⟨rb,⟨#[107]⟩⟩] rfl HLb.out hsz (by omega) (by omega) (fun v2 u2 O2 G2 => ?_)
   simp only [pS,List.set,zT,zZ,zU]
   obtain ⟨v2a,v2c,rfl⟩:=own_shape O2
   have hdi : Disj (.slice a2 n2 a4) (.slice a1 n1 a3):=own_types HSb.out.o.i HSb.out.o.t (by decide)
   have HXc:=qH (HSb.out.x.grown G2 (fun e => HSb.out.far.1 g e.symm rfl))
   have HKc:=qH (HSb.out.k.grown G2 (fun e => HSb.out.far.1 g e.symm rfl))
   have HZc:=qH (HSb.out.z.grown G2 (fun e => (HSb.out.o.far (Nat.lt_succ_self h)).1 h e.symm rfl))
   have HIc:=qH (own_grown HSb.out.o.i G2 hdi)
   have HDc:=qH (HSb.out.d.row hp hcb G2 (fun k hk => by have:=(HSb.out.o.t.lt k hk).1;omega))
   have HTc:=qH O2
   clear O2 G2
   refine ⟨HXc.out,?_⟩
   refine TillZ.value (i:=7) (v:=.pointer (some ⟨g,4,none⟩)) (by kernel_rfl) rfl rfl rfl (by go_simp) HXc.out ?_
   simp only [pS,List.set,zT,zZ,zU]
   have z4:=HXc.out.cell 4 _ rfl
   have f4:=HXc.out.free 4
   obtain ⟨b',hb'⟩ : ∃ b',b' = Bk.mk b.c0 b.c1 b.c2 b.c3 (b.ts ++ [⟨rb,⟨#[107]⟩⟩]) b.is:=⟨_,rfl⟩
   have HSB:=qH (show SmallB b' by rw [hb'];exact HSM.out.terms hl5 rb)
   have hgs : u2.grownBy (u2.setCell ⟨g,4,none⟩ (.slice v2a (n1 + 1) v2c)) (some g):=set_grown u2 g 4 _
   have hf1:=own_kind HTc.out HKc.out rfl
   have hf2:=own_kind HIc.out HKc.out rfl
   have HXX:=qH (show BoxC (u2.setCell ⟨g,4,none⟩ (.slice v2a (n1 + 1) v2c)) g [.int .i64 b'.c0,.int .i64 b'.c1,.int .i64 b'.c2,.int .i64 b'.c3,.slice v2a (n1 + 1) v2c,.slice a2 n2 a4] by rw [hb'];exact HXc.out.set (j:=4) (by simp) (.slice v2a (n1 + 1) v2c))
   have HZX:=qH (HZc.out.grown hgs (by simp only [ne_eq,Option.some.injEq];omega))
   have HOX:=qH (show BkO (u2.setCell ⟨g,4,none⟩ (.slice v2a (n1 + 1) v2c)) (h + 1) v2a (n1 + 1) v2c a2 n2 a4 b'.ts b'.is by rw [hb'];exact ⟨own_grownF HTc.out hgs hf1,own_grownF HIc.out hgs hf2⟩)
   have HDX:=qH (HDc.out.row hp hcb hgs (fun k hk => by cases hk;exact hgw))
   refine TillZ.hand_skip (w':=u2.setCell ⟨g,4,none⟩ (.slice v2a (n1 + 1) v2c)) (by kernel_rfl) rfl rfl (by go_simp) ?_
   simp only [pN,zT,zZ,zU]
   refine TillZ.any_done (by kernel_rfl) ?_ _
   generalize u2.setCell ⟨g,4,none⟩ (.slice v2a (n1 + 1) v2c) = Y at *
   clear z4 f4 hgs hf1 hf2 hb' HSb HLb HXc HKc HZc HIc HDc HTc
   go_upto_region 15 with fail
   obtain ⟨vl,hvl⟩ : ∃ vl : List Value,vl = [.int .i64 b'.c0,.int .i64 b'.c1,.int .i64 b'.c2,.int .i64 b'.c3,.slice v2a (n1 + 1) v2c,.slice a2 n2 a4]:=⟨_,rfl⟩
   have HVE:=qH hvl
   have HVL:=qH (show vl.length = 6 by rw [hvl];rfl)
   have HVO:=qH (show vl.all (·.oneCell') = true by rw [hvl];rfl)
   clear hvl
   have HEV:=qH (show BoxC _ g vl by rw [HVE.out];exact HXX.out)
   have HY:=qH (box_setCells HZX.out vl HVL.out)
   have hgr:=setCells_grown h vl 0
   have HDF:=qH (HDX.out.row hp hcb (hgr _) (fun k hk => by cases hk;exact hhw))
   have HBF:=qH ((HOX.out.grownF (hgr _) (HOX.out.far (Nat.lt_succ_self h))).mono (show w.heap.size <= h + 1 by omega))
   clear hgr
   go_wp2_with (first | (refine list_load HEV.out 28 _ 6 rfl rfl rfl HVL.out (by kernel_rfl) ?_;simp only [pS,List.set]) | (refine list_store (vs:=vl) HZX.out 28 _ _ 6 rfl rfl rfl rfl rfl HVL.out HVO.out (by kernel_rfl) ?_;simp only [pN]))
   exact bodyPost_ret (v:=.agg vl.toArray) (results_box HY.out Tryz.results27 rfl HVL.out (by kernel_rfl)) rfl ⟨b',_,_,_,_,_,_,by rw [HVE.out],HSB.out,HBF.out,HDF.out⟩
 by_cases k2 : ra = 2
 · subst k2
   have hmx : Tryz.prog.follows .mixedOrders = true:=by kernel_rfl
   go_upto_region 8 with fail
   refine TillZ.region (t:=11) hmx (fun u => BoxC u g [.int .i64 b.c0,.int .i64 b.c1,.int .i64 b.c2,.int .i64 b.c3,.slice a1 n1 a3,.slice a2 n2 a4]) ?_
   have HSu:=qH (HS2.out.below (Below.refl w2.heap.size w2).drew)
   refine TillZ.take4 (i:=0) (v:=.pointer (some ⟨g,5,none⟩)) rfl rfl rfl (by kernel_rfl) HSu.out.x (fun u hu => by go_simp) ?_
   simp only [pS,List.set,zT,zZ]
   refine TillZ.take4 (i:=1) (v:=.slice a2 n2 a4) rfl rfl rfl (by kernel_rfl) HSu.out.x (fun u hu => by have z5:=hu.cell 5 _ rfl;go_simp) ?_
   simp only [pS,List.set,zT,zZ,zU]
   refine TillZ.take4 (i:=2) (v:=.pointer (some ⟨p,0,none⟩)) rfl rfl rfl (by kernel_rfl) HSu.out.x (fun u hu => by go_simp) ?_
   simp only [pS,List.set,zT,zZ,zU]
   refine TillZ.take4 (i:=5) (v:=.pointer (some ⟨p,0,none⟩)) rfl rfl rfl (by kernel_rfl) HSu.out.x (fun u hu => by go_simp) ?_
   simp only [pS,List.set,zT,zZ,zU]
   generalize hu0 : w2.drew = u0 at *
   clear hu0 HS2
   refine TillZ.one (i:=3) (by kernel_rfl) ?_
   refine TillZ.opz (i:=3) (v:=.slice (some ⟨u0.heap.size,0,none⟩) 3 3) (w':=u0.alloc (.cells #[.string ⟨#[97]⟩,.string ⟨#[122]⟩,.string ⟨#[]⟩] 9)) rfl rfl rfl (by go_simp) (HSu.out.below ((Below.refl _ _).alloc (Nat.le_refl _) _)).x ?_
   simp only [pS,List.set,zT,zZ,zU]
   refine TillZ.one (i:=4) (by kernel_rfl) ?_
   refine TillZ.callz (i:=4) (f:=43) (args:=#[.pointer (some ⟨p,0,none⟩),.slice (some ⟨u0.heap.size,0,none⟩) 3 3]) rfl rfl rfl (by go_simp) ?_
   refine Calls.mono (pickL_c p cb co sl sc sa u0 [⟨#[97]⟩,⟨#[122]⟩,⟨#[]⟩] 9 HSu.out.d.src (by decide) (by decide)) ?_
   rintro e uz ⟨⟨x,hx,rfl⟩,hD⟩
   have HNX : Hid (x.size <= 20):=qH (by
    simp only [List.mem_cons,List.not_mem_nil,or_false] at hx
    rcases hx with rfl | rfl | rfl <;> decide)
   have HSz:=qH (HSu.out.drawn hD hne hne2 hph)
   clear hx hD HSu
   refine ⟨_,rfl,HSz.out.x,?_⟩
   simp only [pS,List.set,zT,zZ,zU]
   refine TillZ.one (i:=6) (by kernel_rfl) ?_
   refine TillZ.callz (i:=6) (f:=28) (args:=#[.pointer (some ⟨p,0,none⟩),.int .i64 4]) rfl rfl rfl (by go_simp) ?_
   refine Calls.mono (n_c p cb co sl sc sa 4 uz HSz.out.d.src (by omega)) ?_
   rintro e ua ⟨rb,rfl,rb0,rb1,hS1,hgr,hz⟩
   have HSa:=qH (HSz.out.drawn ⟨hS1,hgr⟩ hne hne2 hph)
   clear rb0 rb1 hS1 hgr hz HSz
   refine ⟨_,rfl,HSa.out.x,?_⟩
   simp only [pS,List.set,zT,zZ,zU]
   refine TillZ.value (i:=7) (v:=.agg #[.string x,.int .i64 rb,.string ⟨#[118]⟩]) (by kernel_rfl) rfl rfl rfl (by go_simp) HSa.out.x ?_
   simp only [pS,List.set,zT,zZ,zU]
   refine TillZ.one (i:=8) (by kernel_rfl) ?_
   refine TillZ.opz (i:=8) (v:=.slice (some ⟨ua.heap.size,0,none⟩) 1 1) (w':=ua.alloc (.cells #[.string x,.int .i64 rb,.string ⟨#[118]⟩] 32)) rfl rfl rfl (by go_simp) (HSa.out.below ((Below.refl _ _).alloc (Nat.le_refl _) _)).x ?_
   simp only [pS,List.set,zT,zZ,zU]
   have HSb:=qH (HSa.out.below ((Below.refl _ _).alloc (Nat.le_refl _) (.cells #[.string x,.int .i64 rb,.string ⟨#[118]⟩] 32)))
   have HLb:=qH (show SR imE imD (ua.alloc (.cells #[.string x,.int .i64 rb,.string ⟨#[118]⟩] 32)) (some ⟨ua.heap.size,0,none⟩) 1 1 [⟨x,rb,⟨#[118]⟩⟩] from SR.own (by decide) (World.ownsRow_lit ua #[.string x,.int .i64 rb,.string ⟨#[118]⟩] 1 (Nat.le_refl _) (by decide) rfl))
   generalize ua.alloc (.cells #[.string x,.int .i64 rb,.string ⟨#[118]⟩] 32) = ub at *
   generalize ua.heap.size = lb at *
   clear HSa
   have hlt1 : n2 = b.is.length:=HSb.out.o.len.2.symm
   have hsz : h + 1 <= ub.heap.size:=by have:=HSb.out.x.lt;omega
   obtain ⟨i0,hi,hz0,hz1,hz2⟩:=info_parts infoItem
   refine TillZ.one (i:=9) (by kernel_rfl) ?_
   refine append_opz imE imD (i:=9) (.tmp 32) (.tmp 39) 26 rfl rfl rfl rfl 32 i0 _ 40 Tryz.underlying26 hi hz0 hz1 hz2 rfl (by decide) (by decide) (h + 1) (.slice a2 n2 a4) n2 b.is rfl HSb.out.o.i _ 1 1 [⟨x,rb,⟨#[118]⟩⟩] rfl HLb.out hsz (by omega) (by omega) (fun v2 u2 O2 G2 => ?_)
   simp only [pS,List.set,zT,zZ,zU]
   obtain ⟨v2a,v2c,rfl⟩:=own_shape O2
   have hdi : Disj (.slice a1 n1 a3) (.slice a2 n2 a4):=own_types HSb.out.o.t HSb.out.o.i (by decide)
   have HXc:=qH (HSb.out.x.grown G2 (fun e => HSb.out.far.2 g e.symm rfl))
   have HKc:=qH (HSb.out.k.grown G2 (fun e => HSb.out.far.2 g e.symm rfl))
   have HZc:=qH (HSb.out.z.grown G2 (fun e => (HSb.out.o.far (Nat.lt_succ_self h)).2 h e.symm rfl))
   have HIc:=qH (own_grown HSb.out.o.t G2 hdi)
   have HDc:=qH (HSb.out.d.row hp hcb G2 (fun k hk => by have:=(HSb.out.o.i.lt k hk).1;omega))
   have HTc:=qH O2
   clear O2 G2
   refine ⟨HXc.out,?_⟩
   refine TillZ.value (i:=10) (v:=.pointer (some ⟨g,5,none⟩)) (by kernel_rfl) rfl rfl rfl (by go_simp) HXc.out ?_
   simp only [pS,List.set,zT,zZ,zU]
   have z5:=HXc.out.cell 5 _ rfl
   have f5:=HXc.out.free 5
   obtain ⟨b',hb'⟩ : ∃ b',b' = Bk.mk b.c0 b.c1 b.c2 b.c3 b.ts (b.is ++ [⟨x,rb,⟨#[118]⟩⟩]):=⟨_,rfl⟩
   have HSB:=qH (show SmallB b' by rw [hb'];exact HSM.out.items (by omega) HNX.out rb)
   have hgs : u2.grownBy (u2.setCell ⟨g,5,none⟩ (.slice v2a (n2 + 1) v2c)) (some g):=set_grown u2 g 5 _
   have hf1:=own_kind HTc.out HKc.out rfl
   have hf2:=own_kind HIc.out HKc.out rfl
   have HXX:=qH (show BoxC (u2.setCell ⟨g,5,none⟩ (.slice v2a (n2 + 1) v2c)) g [.int .i64 b'.c0,.int .i64 b'.c1,.int .i64 b'.c2,.int .i64 b'.c3,.slice a1 n1 a3,.slice v2a (n2 + 1) v2c] by rw [hb'];exact HXc.out.set (j:=5) (by simp) (.slice v2a (n2 + 1) v2c))
   have HZX:=qH (HZc.out.grown hgs (by simp only [ne_eq,Option.some.injEq];omega))
   have HOX:=qH (show BkO (u2.setCell ⟨g,5,none⟩ (.slice v2a (n2 + 1) v2c)) (h + 1) a1 n1 a3 v2a (n2 + 1) v2c b'.ts b'.is by rw [hb'];exact ⟨own_grownF HIc.out hgs hf2,own_grownF HTc.out hgs hf1⟩)
   have HDX:=qH (HDc.out.row hp hcb hgs (fun k hk => by cases hk;exact hgw))
   refine TillZ.hand_skip (w':=u2.setCell ⟨g,5,none⟩ (.slice v2a (n2 + 1) v2c)) (by kernel_rfl) rfl rfl (by go_simp) ?_
   simp only [pN,zT,zZ,zU]
   refine TillZ.any_done (by kernel_rfl) ?_ _
   generalize u2.setCell ⟨g,5,none⟩ (.slice v2a (n2 + 1) v2c) = Y at *
   clear z5 f5 hgs hf1 hf2 hb' HSb HLb HXc HKc HZc HIc HDc HTc
   go_upto_region 15 with fail
   obtain ⟨vl,hvl⟩ : ∃ vl : List Value,vl = [.int .i64 b'.c0,.int .i64 b'.c1,.int .i64 b'.c2,.int .i64 b'.c3,.slice a1 n1 a3,.slice v2a (n2 + 1) v2c]:=⟨_,rfl⟩
   have HVE:=qH hvl
   have HVL:=qH (show vl.length = 6 by rw [hvl];rfl)
   have HVO:=qH (show vl.all (·.oneCell') = true by rw [hvl];rfl)
   clear hvl
   have HEV:=qH (show BoxC _ g vl by rw [HVE.out];exact HXX.out)
   have HY:=qH (box_setCells HZX.out vl HVL.out)
   have hgr:=setCells_grown h vl 0
   have HDF:=qH (HDX.out.row hp hcb (hgr _) (fun k hk => by cases hk;exact hhw))
   have HBF:=qH ((HOX.out.grownF (hgr _) (HOX.out.far (Nat.lt_succ_self h))).mono (show w.heap.size <= h + 1 by omega))
   clear hgr
   go_wp2_with (first | (refine list_load HEV.out 28 _ 6 rfl rfl rfl HVL.out (by kernel_rfl) ?_;simp only [pS,List.set]) | (refine list_store (vs:=vl) HZX.out 28 _ _ 6 rfl rfl rfl rfl rfl HVL.out HVO.out (by kernel_rfl) ?_;simp only [pN]))
   exact bodyPost_ret (v:=.agg vl.toArray) (results_box HY.out Tryz.results27 rfl HVL.out (by kernel_rfl)) rfl ⟨b',_,_,_,_,_,_,by rw [HVE.out],HSB.out,HBF.out,HDF.out⟩
 by_cases k3 : ra = 3
 · subst k3
   obtain ⟨W3,hW3⟩ : ∃ W3,W3 = w2.alloc (.cells #[.string ⟨#[101,97]⟩,.string ⟨#[101,98]⟩,.string ⟨#[101,99]⟩,.string ⟨#[101,100]⟩,.string ⟨#[101,101]⟩] 9):=⟨_,rfl⟩
   obtain ⟨L,hL⟩ : ∃ L,L = w2.heap.size:=⟨_,rfl⟩
   have HL3:=qH (show BoxC W3 L [.string ⟨#[101,97]⟩,.string ⟨#[101,98]⟩,.string ⟨#[101,99]⟩,.string ⟨#[101,100]⟩,.string ⟨#[101,101]⟩] by rw [hW3,hL];exact BoxC.made _ _ _)
   have HK3:=qH (show KindAt W3 L 9 by rw [hW3,hL];exact KindAt.made _ _ _)
   have HS3:=qH (show GState w W3 p cb co sl sc sa h g b a1 n1 a3 a2 n2 a4 by rw [hW3];exact HS2.out.below ((Below.refl _ _).alloc (Nat.le_refl _) _))
   have hgL : g ≠ L:=by have:=HS2.out.x.lt;omega
   clear HS2
   obtain ⟨i0,hi,hz0,hz1,hz2⟩:=info_parts infoItem
   go_upto_region 11 with fail
   rw [<- hW3,<- hL]
   clear hW3 hL
   go_loopw [46] (fun i wr => ∃ (j : Nat) (b : Bk) (a1 : Option Addr) (n1 a3 : Nat) (a2 : Option Addr) (n2 a4 : Nat),j <= 5 /\ i = .int .i64 j /\ b.is.length <= 8 + j /\ Hid (SmallB b) /\ Hid (GState w wr p cb co sl sc sa h g b a1 n1 a3 a2 n2 a4) /\ Hid (BoxC wr L [.string ⟨#[101,97]⟩,.string ⟨#[101,98]⟩,.string ⟨#[101,99]⟩,.string ⟨#[101,100]⟩,.string ⟨#[101,101]⟩]) /\ Hid (KindAt wr L 9)) (fun i _ => 5 - (intOf i).toNat)
   case atStart => exact ⟨0,b,a1,n1,a3,a2,n2,a4,by omega,rfl,by omega,HSM,HS3,HL3,HK3⟩
   case round =>
    clear HS3 HL3 HK3 HSM hl8
    obtain ⟨j,b,a1,n1,a3,a2,n2,a4,hj,rfl,hil,HSM,HST,HLT,HKT⟩:=hrel
    by_cases hlt : j < 5
    · obtain ⟨y,hy,hys⟩ : ∃ y : ByteArray,wr.cell? ⟨L,j,none⟩ = some (.string y) /\ y.size <= 20:=by
       have hjj : j = 0 ∨ j = 1 ∨ j = 2 ∨ j = 3 ∨ j = 4:=by omega
       rcases hjj with rfl | rfl | rfl | rfl | rfl
       · exact ⟨_,HLT.out.cell 0 _ rfl,by decide⟩
       · exact ⟨_,HLT.out.cell 1 _ rfl,by decide⟩
       · exact ⟨_,HLT.out.cell 2 _ rfl,by decide⟩
       · exact ⟨_,HLT.out.cell 3 _ rfl,by decide⟩
       · exact ⟨_,HLT.out.cell 4 _ rfl,by decide⟩
      have hin : 0 <= (j : Int) /\ (j : Int) < 5:=by omega
      have HNX:=qH hys
      have hlt1 : n2 = b.is.length:=HST.out.o.len.2.symm
      have hsz : h + 1 <= wr.heap.size:=by have:=HST.out.x.lt;omega
      have hnn : n2 <= 1048576:=by omega
      have z5:=HST.out.x.cell 5 _ rfl
      have f5:=HST.out.x.free 5
      have hown:=HST.out.o.i
      clear hys hlt1
      go_wp2_with (at_builtin;refine append_enc imE rfl (.tmp 51) (.tmp 54) 26 rfl 32 i0 _ 40 Tryz.underlying26 hi hz0 hz1 hz2 (by rfl) (by decide) (by decide) (h + 1) (.slice a2 n2 a4) n2 b.is (by rfl) hown ⟨y,1,⟨#[118]⟩⟩ _ (by rfl) _ (by rfl) hsz hnn ?_;intro v2 u2 O2 G2 _;obtain ⟨v2a,v2c,rfl⟩:=own_shape O2;have hdi : Disj (.slice a1 n1 a3) (.slice a2 n2 a4):=own_types HST.out.o.t HST.out.o.i (by decide);have HXc:=qH (HST.out.x.grown G2 (fun e => HST.out.far.2 g e.symm rfl));have HKc:=qH (HST.out.k.grown G2 (fun e => HST.out.far.2 g e.symm rfl));have HZc:=qH (HST.out.z.grown G2 (fun e => (HST.out.o.far (Nat.lt_succ_self h)).2 h e.symm rfl));have HIc:=qH (own_grown HST.out.o.t G2 hdi);have HDc:=qH (HST.out.d.row hp hcb G2 (fun k hk => by have:=(HST.out.o.i.lt k hk).1;omega));have HLc:=qH (HLT.out.grown G2 (fun e => own_kind HST.out.o.i HKT.out rfl L e.symm rfl));have HKL:=qH (HKT.out.grown G2 (fun e => own_kind HST.out.o.i HKT.out rfl L e.symm rfl));have HTc:=qH O2;have z5b:=HXc.out.cell 5 _ rfl;have f5b:=HXc.out.free 5;clear O2 G2 hown z5 f5 hdi)
      go_roundw
      case rel =>
       have hgs : u2.grownBy (u2.setCell ⟨g,5,none⟩ (.slice v2a (n2 + 1) v2c)) (some g):=set_grown u2 g 5 _
       have hgL2 : some L ≠ some g:=by simp only [ne_eq,Option.some.injEq];omega
       have hk2 : KindAt (u2.setCell ⟨g,5,none⟩ (.slice v2a (n2 + 1) v2c)) g 28:=HKc.out.set _ _
       exact ⟨j + 1,⟨b.c0,b.c1,b.c2,b.c3,b.ts,b.is ++ [⟨y,1,⟨#[118]⟩⟩]⟩,a1,n1,a3,v2a,n2 + 1,v2c,by omega,by go_num,by simp;omega,qH (HSM.out.items (by omega) HNX.out 1),qH ⟨HZc.out.grown hgs (by simp only [ne_eq,Option.some.injEq];omega),HXc.out.set (j:=5) (by simp) (.slice v2a (n2 + 1) v2c),hk2,⟨own_grownF HIc.out hgs (own_kind HIc.out HKc.out rfl),own_grownF HTc.out hgs (own_kind HTc.out HKc.out rfl)⟩,HDc.out.row hp hcb hgs (fun k hk => by cases hk;exact hgw)⟩,qH (HLc.out.grown hgs hgL2),qH (HKL.out.grown hgs hgL2)⟩
      case measure => simp [intOf];omega
    · obtain rfl : j = 5:=by omega
      obtain ⟨vl,hvl⟩ : ∃ vl : List Value,vl = [.int .i64 b.c0,.int .i64 b.c1,.int .i64 b.c2,.int .i64 b.c3,.slice a1 n1 a3,.slice a2 n2 a4]:=⟨_,rfl⟩
      have HVE:=qH hvl
      have HVL:=qH (show vl.length = 6 by rw [hvl];rfl)
      have HVO:=qH (show vl.all (·.oneCell') = true by rw [hvl];rfl)
      clear hvl
      have HEV:=qH (show BoxC _ g vl by rw [HVE.out];exact HST.out.x)
      have HY:=qH (box_setCells HST.out.z vl HVL.out)
      have hgr:=setCells_grown h vl 0
      have HDF:=qH (HST.out.d.row hp hcb (hgr _) (fun k hk => by cases hk;exact hhw))
      have HBF:=qH ((HST.out.o.grownF (hgr _) (HST.out.o.far (Nat.lt_succ_self h))).mono (show w.heap.size <= h + 1 by omega))
      clear hgr
      go_wp2_with (first | (refine list_load HEV.out 28 _ 6 rfl rfl rfl HVL.out (by kernel_rfl) ?_;simp only [pS,List.set]) | (refine list_store (vs:=vl) HST.out.z 28 _ _ 6 rfl rfl rfl rfl rfl HVL.out HVO.out (by kernel_rfl) ?_;simp only [pN]))
      exact bodyPost_ret (v:=.agg vl.toArray) (results_box HY.out Tryz.results27 rfl HVL.out (by kernel_rfl)) rfl ⟨b,_,_,_,_,_,_,by rw [HVE.out],HSM.out,HBF.out,HDF.out⟩
 obtain ⟨vl,hvl⟩ : ∃ vl : List Value,vl = [.int .i64 b.c0,.int .i64 b.c1,.int .i64 b.c2,.int .i64 b.c3,.slice a1 n1 a3,.slice a2 n2 a4]:=⟨_,rfl⟩
 have HVE:=qH hvl
 have HVL:=qH (show vl.length = 6 by rw [hvl];rfl)
 have HVO:=qH (show vl.all (·.oneCell') = true by rw [hvl];rfl)
 clear hvl
 have HEV:=qH (show BoxC _ g vl by rw [HVE.out];exact HS2.out.x)
 have HY:=qH (box_setCells HS2.out.z vl HVL.out)
 have hgr:=setCells_grown h vl 0
 have HDF:=qH (HS2.out.d.row hp hcb (hgr _) (fun k hk => by cases hk;exact hhw))
 have HBF:=qH ((HS2.out.o.grownF (hgr _) (HS2.out.o.far (Nat.lt_succ_self h))).mono (show w.heap.size <= h + 1 by omega))
 clear hgr
 go_wp2_with (first | (refine list_load HEV.out 28 _ 6 rfl rfl rfl HVL.out (by kernel_rfl) ?_;simp only [pS,List.set]) | (refine list_store (vs:=vl) HS2.out.z 28 _ _ 6 rfl rfl rfl rfl rfl HVL.out HVO.out (by kernel_rfl) ?_;simp only [pN]))
 exact bodyPost_ret (v:=.agg vl.toArray) (results_box HY.out Tryz.results27 rfl HVL.out (by kernel_rfl)) rfl ⟨b,_,_,_,_,_,_,by rw [HVE.out],HSM.out,HBF.out,HDF.out⟩
theorem results_box2 {P : Program} {fn : Func} {tmps : Array Value} {w : World} {h h' : Nat} {cs ds : List Value} {t t' : Tmp} {ty ty' : TypeId} {n n' : Nat} (b : BoxC w h cs) (b' : BoxC w h' ds) (hf : fn.results = #[.cell t ty,.cell t' ty']) (ht : tmps.getD t undef = .pointer (some ⟨h,0,none⟩)) (ht' : tmps.getD t' undef = .pointer (some ⟨h',0,none⟩)) (hn : cs.length = n) (hn' : ds.length = n') (hr : rowIs P ty n = true) (hr' : rowIs P ty' n' = true) :
 (results fn tmps).run P w = .ok (.tuple #[.agg cs.toArray,.agg ds.toArray]) w:=by
 obtain ⟨d,hu,hd⟩:=rowIs_row hr
 obtain ⟨d',hu',hd'⟩:=rowIs_row hr'
 have h1:=run_loadVar_mid (P:=P) w h 0 ty cs d b.range hu hd (by rw [hn];exact rowIs_size hr)
 have h2:=run_loadVar_mid (P:=P) w h' 0 ty' ds d' b'.range hu' hd' (by rw [hn'];exact rowIs_size hr')
 have e1 : tmps[t]?.getD undef = .pointer (some ⟨h,0,none⟩):=by simpa using ht
 have e2 : tmps[t']?.getD undef = .pointer (some ⟨h',0,none⟩):=by simpa using ht'
 simp [results,hf,e1,e2,asAddr,h1,h2]
def SomeBD (w : World) (e : Ending) (w' : World) : Prop :=
 ∃ (b : Bk) (a1 : Option Addr) (n1 a3 : Nat) (a2 : Option Addr) (n2 a4 : Nat) (q0 q1 q2 q3 q4 q5 : Int) (q6 q7 : ByteArray) (q8 : Int) (q9 : ByteArray),e = .returned (.tuple #[.agg #[.int .i64 b.c0,.int .i64 b.c1,.int .i64 b.c2,.int .i64 b.c3,.slice a1 n1 a3,.slice a2 n2 a4],.agg #[.int .i64 q0,.int .i64 q1,.int .i64 q2,.int .i64 q3,.int .i64 q4,.int .i64 q5,.string q6,.string q7,.int .i64 q8,.string q9]]) /\ SmallB b /\ BkR w' a1 n1 a3 a2 n2 a4 b.ts b.is /\ (q6.size <= 20 /\ q7.size <= 20 /\ q9.size <= 20) /\ Below w.heap.size w w'
theorem drawBookDo_any (ao : Option Addr) (len cap : Nat) (w : World) (hC : CodeAt w ao len) (hl : len <= 1048576) :
 Calls Tryz.prog 4 #[.slice ao len cap] w (SomeBD w):=by
 obtain ⟨W,hW⟩ : ∃ W,W = (w.alloc (.cells #[.int .i64 0,.int .i64 0,.int .i64 0,.int .i64 0,.slice none 0 0,.slice none 0 0] 28)).alloc (.cells #[.int .i64 0,.int .i64 0,.int .i64 0,.int .i64 0,.int .i64 0,.int .i64 0,.string ⟨#[]⟩,.string ⟨#[]⟩,.int .i64 0,.string ⟨#[]⟩] 34):=⟨_,rfl⟩
 obtain ⟨h,hh⟩ : ∃ h,h = w.heap.size:=⟨_,rfl⟩
 have HB0:=qH (show Below h w W by rw [hW,hh];exact ((Below.refl _ _).alloc (Nat.le_refl _) _).alloc (by simp) _)
 have HX0:=qH (show BoxC W h [.int .i64 0,.int .i64 0,.int .i64 0,.int .i64 0,.slice none 0 0,.slice none 0 0] by rw [hW,hh];exact (BoxC.made _ _ _).alloc _)
 have HY0:=qH (show BoxC W (h + 1) [.int .i64 0,.int .i64 0,.int .i64 0,.int .i64 0,.int .i64 0,.int .i64 0,.string ⟨#[]⟩,.string ⟨#[]⟩,.int .i64 0,.string ⟨#[]⟩] by rw [hW,hh];have:=BoxC.made (w.alloc (.cells #[.int .i64 0,.int .i64 0,.int .i64 0,.int .i64 0,.slice none 0 0,.slice none 0 0] 28)) #[.int .i64 0,.int .i64 0,.int .i64 0,.int .i64 0,.int .i64 0,.int .i64 0,.string ⟨#[]⟩,.string ⟨#[]⟩,.int .i64 0,.string ⟨#[]⟩] 34;rwa [World.size_alloc] at this)
 have HWZ:=qH (show W.heap.size = h + 2 by rw [hW,hh,World.size_alloc,World.size_alloc])
 have hwb : Below w.heap.size w W:=by rw [<- hh];exact HB0.out
 have hcw:=hC.below hwb
 have HHW:=qH hh
 go_enter Tryz.func4,Tryz.ntmps4
 go_upto_region 1 with fail
 rw [<- hW,<- hh]
 clear hW hh hwb hC
 go_wp2_with fail
 refine (source_any ao len cap W hcw hl).mono ?_
 rintro e w1 ⟨p,rfl,hp,⟨cb,co,sl,sc,sa,hS⟩,hb1⟩
 have HB1:=qH (HB0.out.trans (hb1.mono (by have:=HWZ.out;omega)))
 have HX1:=qH (HX0.out.below hb1)
 have HY1:=qH (HY0.out.below hb1)
 have hph : h + 2 <= p:=by have:=HWZ.out;omega
 have hne : some h ≠ some p:=by simp only [ne_eq,Option.some.injEq];omega
 have hne1 : some (h + 1) ≠ some p:=by simp only [ne_eq,Option.some.injEq];omega
 have hpl:=hS.lt
 have hcb:=hS.code
 clear hb1 HB0 HX0 HY0 HWZ hcw
 go_wp2_with fail
 refine (deed_c p cb co sl sc sa w1 hS).mono ?_
 rintro e w2 ⟨q0,q1,q2,q3,q4,q5,q6,q7,q8,q9,rfl,hq,hD⟩
 have HQ:=qH hq
 have HX2:=qH (HX1.out.grown hD.gr hne)
 have HY2:=qH (HY1.out.grown hD.gr hne1)
 obtain ⟨W3,hW3⟩ : ∃ W3,W3 = w2.alloc (.cells #[.int .i64 q0,.int .i64 q1,.int .i64 q2,.int .i64 q3,.int .i64 q4,.int .i64 q5,.string q6,.string q7,.int .i64 q8,.string q9] 34):=⟨_,rfl⟩
 obtain ⟨g,hg⟩ : ∃ g,g = w2.heap.size:=⟨_,rfl⟩
 have hpg : p < g:=by have:=hD.gr.size;omega
 have hhg : h + 1 < g:=by omega
 have hw1g : w1.heap.size <= g:=by have:=hD.gr.size;omega
 have HG3:=qH (show BoxC W3 g [.int .i64 q0,.int .i64 q1,.int .i64 q2,.int .i64 q3,.int .i64 q4,.int .i64 q5,.string q6,.string q7,.int .i64 q8,.string q9] by rw [hW3,hg];exact BoxC.made _ _ _)
 have hal:=(Below.refl w2.heap.size w2).alloc (Nat.le_refl _) (.cells #[.int .i64 q0,.int .i64 q1,.int .i64 q2,.int .i64 q3,.int .i64 q4,.int .i64 q5,.string q6,.string q7,.int .i64 q8,.string q9] 34)
 have HX3:=qH (show BoxC W3 h [.int .i64 0,.int .i64 0,.int .i64 0,.int .i64 0,.slice none 0 0,.slice none 0 0] by rw [hW3];exact HX2.out.below hal)
 have HY3:=qH (show BoxC W3 (h + 1) [.int .i64 0,.int .i64 0,.int .i64 0,.int .i64 0,.int .i64 0,.int .i64 0,.string ⟨#[]⟩,.string ⟨#[]⟩,.int .i64 0,.string ⟨#[]⟩] by rw [hW3];exact HY2.out.below hal)
 have HD3:=qH (show DrawnC w1 W3 p cb co sl sc sa by rw [hW3];exact hD.below hal)
 have HW3:=qH (show W3.heap.size = g + 1 by rw [hW3,hg,World.size_alloc])
 have hmx : Tryz.prog.follows .mixedOrders = true:=by kernel_rfl
 have hgp : some g ≠ some p:=by simp only [ne_eq,Option.some.injEq];omega
 clear hq hD hS HX1 HY1 HX2 HY2 hal
 go_upto_region 3 with fail
 rw [<- hW3,<- hg]
 clear hW3 hg
 refine TillZ.region (t:=4) hmx (fun u => BoxC u g [.int .i64 q0,.int .i64 q1,.int .i64 q2,.int .i64 q3,.int .i64 q4,.int .i64 q5,.string q6,.string q7,.int .i64 q8,.string q9]) ?_
 have hdr:=(Below.refl W3.heap.size W3).drew
 have HGu:=qH (HG3.out.below hdr)
 have HXu:=qH (HX3.out.below hdr)
 have HYu:=qH (HY3.out.below hdr)
 have HDu:=qH (HD3.out.below hdr)
 have HZu:=qH (show W3.drew.heap.size = g + 1 from HW3.out)
 clear hdr HG3 HX3 HY3 HD3 HW3
 refine TillZ.take4 (i:=0) (v:=.pointer (some ⟨p,0,none⟩)) rfl rfl rfl (by kernel_rfl) HGu.out (fun u hu => by go_simp) ?_
 simp only [pS,List.set,zT,zZ]
 refine TillZ.take4 (i:=2) (v:=.agg #[.int .i64 q0,.int .i64 q1,.int .i64 q2,.int .i64 q3,.int .i64 q4,.int .i64 q5,.string q6,.string q7,.int .i64 q8,.string q9]) rfl rfl rfl (by kernel_rfl) HGu.out (fun u hu => exec_load hu 34 _ 10 rfl rfl rfl (by kernel_rfl)) ?_
 simp only [pS,List.set,zT,zZ,zU]
 generalize W3.drew = u0 at *
 refine TillZ.one (i:=1) (by kernel_rfl) ?_
 refine TillZ.callz (i:=1) (f:=27) (args:=#[.pointer (some ⟨p,0,none⟩)]) rfl rfl rfl (by go_simp) ?_
 refine Calls.mono (book_c p cb co sl sc sa u0 HDu.out.src) ?_
 rintro e u1 ⟨b,a1,n1,a3,a2,n2,a4,rfl,hsm,ho,hD⟩
 have HSM:=qH hsm
 rw [HZu.out] at ho
 have HO:=qH ho
 have HX:=qH (HXu.out.grown hD.gr hne)
 have HY:=qH (HYu.out.grown hD.gr hne1)
 have HG:=qH (HGu.out.grown hD.gr hgp)
 have HD:=qH (HDu.out.trans hD)
 clear hsm ho hD HXu HYu HGu HDu HZu
 refine ⟨_,rfl,HG.out,?_⟩
 simp only [pS,List.set,zT,zZ,zU]
 obtain ⟨vl,hvl⟩ : ∃ vl : List Value,vl = [.int .i64 b.c0,.int .i64 b.c1,.int .i64 b.c2,.int .i64 b.c3,.slice a1 n1 a3,.slice a2 n2 a4]:=⟨_,rfl⟩
 have HVE:=qH hvl
 have HVL:=qH (show vl.length = 6 by rw [hvl];rfl)
 have HVO:=qH (show vl.all (·.oneCell') = true by rw [hvl];rfl)
 clear hvl
 obtain ⟨ql,hql⟩ : ∃ ql : List Value,ql = [.int .i64 q0,.int .i64 q1,.int .i64 q2,.int .i64 q3,.int .i64 q4,.int .i64 q5,.string q6,.string q7,.int .i64 q8,.string q9]:=⟨_,rfl⟩
 have HQE:=qH hql
 have HQL:=qH (show ql.length = 10 by rw [hql];rfl)
 have HQO:=qH (show ql.all (·.oneCell') = true by rw [hql];rfl)
 clear hql
 have hg1:=setCells_grown h vl 0 u1
 have hg2:=setCells_grown (h + 1) ql 0 (u1.setCells h 0 vl)
 have HXa:=qH (box_setCells HX.out vl HVL.out)
 have HYa:=qH (HY.out.grown hg1 (by simp))
 have HGa:=qH (HG.out.grown hg1 (by simp only [ne_eq,Option.some.injEq];omega))
 have HXF:=qH (HXa.out.grown hg2 (by simp))
 have HYF:=qH (box_setCells HYa.out ql HQL.out)
 have HOF:=qH ((HO.out.grownF hg1 (HO.out.far (by omega))).grownF hg2 ((HO.out.grownF hg1 (HO.out.far (by omega))).far (by omega)))
 have HBF:=qH (show Below h w ((u1.setCells h 0 vl).setCells (h + 1) 0 ql) from ((HB1.out.trans (below_drawn (Below.refl h w1) (by omega) (by omega) HD.out.drawn)).grown hg1 (by have:=HX.out.lt;omega) (fun k hk => by cases hk;exact Nat.le_refl _)).grown hg2 (by have:=HXa.out.lt;omega) (fun k hk => by cases hk;omega))
 clear hg1 hg2
 refine TillZ.one (i:=3) (by kernel_rfl) ?_
 refine TillZ.opz_skip (i:=3) (w':=u1.setCells h 0 vl) rfl rfl rfl (exec_store HX.out 28 (.tmp 2) (.tmp 11) 6 rfl rfl (by rw [HVE.out];rfl) rfl HVL.out HVO.out (by kernel_rfl)) HGa.out ?_
 simp only [pN,zT,zZ,zU]
 refine TillZ.hand_skip (w':=(u1.setCells h 0 vl).setCells (h + 1) 0 ql) (by kernel_rfl) rfl rfl (exec_store HYa.out 34 (.tmp 3) (.tmp 12) 10 rfl rfl (by rw [HQE.out];rfl) rfl HQL.out HQO.out (by kernel_rfl)) ?_
 simp only [pN,zT,zZ,zU]
 refine TillZ.any_done (by kernel_rfl) ?_ _
 generalize (u1.setCells h 0 vl).setCells (h + 1) 0 ql = Y at *
 go_wp2_with fail
 exact bodyPost_ret (v:=.tuple #[.agg vl.toArray,.agg ql.toArray]) (results_box2 HXF.out HYF.out Tryz.results4 rfl rfl HVL.out HQL.out (by kernel_rfl) (by kernel_rfl)) rfl ⟨b,a1,n1,a3,a2,n2,a4,q0,q1,q2,q3,q4,q5,q6,q7,q8,q9,by rw [HVE.out,HQE.out],HSM.out,HOF.out.read,HQ.out,by rw [<- HHW.out];exact HBF.out⟩
theorem bytesBelow (w : World) (e : TypeId) (s : ByteArray) : Below w.heap.size w (Lib.bytesWorld w e s) :=
 ⟨rfl,rfl,rfl,by rw [Lib.bytesWorld_size];omega,fun k hk => Lib.bytesWorld_at_old w e s k hk⟩
theorem smallD_max {ds : List Dd} (h : SmallD ds) : ∀ t,t < ds.length -> (ds.getD t ddD).lk.size <= maxLen /\ (ds.getD t ddD).nm.size <= maxLen /\ (ds.getD t ddD).bd.size <= maxLen:=fun t ht => by
 obtain ⟨a,b,c⟩:=h t ht
 unfold maxLen
 omega
theorem log_c (p cb co sl sc : Nat) (sa : Option Addr) (w : World) (hS : SrcC w p cb co sl sc sa) :
 Calls Tryz.prog 36 #[.pointer (some ⟨p,0,none⟩)] w fun e w' => ∃ t : ByteArray,e = .returned (.string t) /\ t.size <= 8000 /\ DrawnC w w' p cb co sl sc sa:=by
 have hp:=hS.lt
 have hcb:=hS.code
 obtain ⟨i0,hi,hz0,hz1,hz2⟩:=info_parts infoDeed
 obtain ⟨i1,hi1,hy0,hy1,hy2⟩:=info_parts infoU8
 obtain ⟨W,hW⟩ : ∃ W,W = w.alloc (.cells #[.int .i64 1,.int .i64 1,.int .i64 2,.int .i64 3,.int .i64 0,.int .i64 0,.string ⟨#[]⟩,.string ⟨#[]⟩,.int .i64 0,.string ⟨#[]⟩] 34):=⟨_,rfl⟩
 have HR0:=qH (show DdR W (some ⟨w.heap.size,0,none⟩) 1 1 [⟨1,1,2,3,0,0,⟨#[]⟩,⟨#[]⟩,0,⟨#[]⟩⟩] by
  rw [hW]
  exact DdR.own (base:=w.heap.size) (e:=34) (World.ownsRow_lit w #[.int .i64 1,.int .i64 1,.int .i64 2,.int .i64 3,.int .i64 0,.int .i64 0,.string ⟨#[]⟩,.string ⟨#[]⟩,.int .i64 0,.string ⟨#[]⟩] 1 (Nat.le_refl _) (by decide) (by simp [ddE])))
 have HD0:=qH (show DrawnC w W p cb co sl sc sa by rw [hW];exact (DrawnC.refl hS).below ((Below.refl _ _).alloc (Nat.le_refl _) _))
 clear hS
 go_enter Tryz.func36,Tryz.ntmps36
 go_wp2_with fail
 rw [<- hW]
 clear hW
 refine (specTxBytes_any (some ⟨w.heap.size,0,none⟩) 1 1 [⟨1,1,2,3,0,0,⟨#[]⟩,⟨#[]⟩,0,⟨#[]⟩⟩] W HR0.out (by decide) (fun t ht => by
  obtain rfl : t = 0:=by omega
  exact ⟨by decide,by decide,by decide⟩)).mono ?_
 rintro e w1 ⟨rfl,hb⟩
 have HD1:=qH (HD0.out.below hb)
 have hts:=txS_size [⟨1,1,2,3,0,0,⟨#[]⟩,⟨#[]⟩,0,⟨#[]⟩⟩]
 rw [show ([⟨1,1,2,3,0,0,⟨#[]⟩,⟨#[]⟩,0,⟨#[]⟩⟩] : List Dd).length = 1 from rfl] at hts
 generalize txS [⟨1,1,2,3,0,0,⟨#[]⟩,⟨#[]⟩,0,⟨#[]⟩⟩] = s0 at *
 clear hb HD0 HR0
 have hcv:=Lib.run_convert_string_bytes (P:=Tryz.prog) w1 9 22 5 s0 Tryz.underlying9 Tryz.underlying22 Tryz.underlying5
 obtain ⟨W2,hW2⟩ : ∃ W2,W2 = Lib.bytesWorld w1 5 s0:=⟨_,rfl⟩
 have HBW2:=qH (show BW W2 w1.heap.size w1.heap.size s0.size (grownCap w1 s0.size 0 5) s0 by rw [hW2];exact BW.made _ _ _)
 have HD2:=qH (show DrawnC w W2 p cb co sl sc sa by rw [hW2];exact HD1.out.below (bytesBelow _ _ _))
 rw [<- hW2] at hcv
 generalize grownCap w1 s0.size 0 5 = c0 at *
 have HW1:=qH HD1.out.gr.size
 have HW12:=qH (show w1.heap.size <= W2.heap.size by rw [hW2,Lib.bytesWorld_size];omega)
 clear hW2 HD1
 go_upto_region 2 with fail
 clear hcv
 go_wp2_with fail
 refine (n_c p cb co sl sc sa 6 _ HD2.out.src (by omega)).mono ?_
 rintro e w3 ⟨r,rfl,r0,r1,hS1,hg,hz⟩
 have hr : r <= 5:=by omega
 have HD3:=qH (HD2.out.trans ⟨hS1,hg⟩)
 have HBW3:=qH (HBW2.out.kept hg (by intro e;injection e with e;have:=HW1.out;omega))
 have HW3:=qH (Nat.le_trans HW12.out hg.size)
 clear r1 hS1 hg hz HD2 HBW2
 go_wp2_with fail
 go_loopw [4,3] (fun i v wr => ∃ (k : Int) (g n c : Nat) (s : ByteArray),i = .int .i64 k /\ v = .slice (some ⟨g,0,none⟩) n c /\ 0 <= k /\ k <= 5 /\ (n : Int) + 624 * k <= 3344 /\ Hid (BW wr w1.heap.size g n c s) /\ Hid (DrawnC w wr p cb co sl sc sa) /\ Hid (w1.heap.size <= wr.heap.size)) (fun i _ _ => (intOf i).toNat)
 case atStart => exact ⟨r,_,_,_,s0,rfl,rfl,r0,hr,by omega,HBW3,HD3,HW3⟩
 case round =>
  clear HBW3 HD3 HW3 r0 hr hts
  obtain ⟨k,g,n,c,s,rfl,rfl,hk0,hk5,hnk,HBW,HDR,HWR⟩:=hrel
  by_cases hk : 0 < k
  · obtain ⟨V,hV⟩ : ∃ V,V = wr.alloc (.cells #[] 34):=⟨_,rfl⟩
    have HO0:=qH (show V.ownsRow wr.heap.size 34 ddE.k (.slice (some ⟨wr.heap.size,0,none⟩) 0 0) 0 (ddE.flat []) by
     rw [hV]
     exact World.ownsRow_lit wr #[] 0 (Nat.le_refl _) (by decide) (by simp))
    have hgl:=HBW.out.lt
    have HD4:=qH (show DrawnC w V p cb co sl sc sa by rw [hV];exact HDR.out.below ((Below.refl _ _).alloc (Nat.le_refl _) _))
    have HBW4:=qH (show BW V w1.heap.size g n c s by rw [hV];exact HBW.out.kept (World.grownBy_alloc _ _ none) (by simp))
    have HVW:=qH (show wr.heap.size <= V.heap.size by rw [hV,World.size_alloc];omega)
    have hpw : p < wr.heap.size:=Nat.lt_of_lt_of_le hp HDR.out.gr.size
    have hww : w.heap.size <= wr.heap.size:=HDR.out.gr.size
    have hgp : g ≠ p:=by have:=HBW.out.low;have:=HW1.out;omega
    go_upto_region 6 with fail
    rw [<- hV]
    clear hV HDR HBW
    have HWB:=qH HWR.out
    clear HWR
    generalize wr.heap.size = bs at *
    go_wp2_with fail
    refine (n_c p cb co sl sc sa 3 _ HD4.out.src (by omega)).mono ?_
    rintro e w5 ⟨q,rfl,q0,q1,hS1,hg,hz⟩
    have hq : q <= 2:=by omega
    have HD5:=qH (HD4.out.trans ⟨hS1,hg⟩)
    have HBW5:=qH (HBW4.out.kept hg (by intro e;injection e with e;exact hgp e))
    have HO5:=qH (own_drawn HO0.out hg hpw)
    have HW5:=qH (Nat.le_trans HVW.out hg.size)
    clear q1 hS1 hg hz HD4 HBW4 HO0
    have hwq : IntKind.i64.wrap (1 + q) = 1 + q:=IntWalk.i64_in _ (by omega)
    go_wp2_with fail
    go_loopw [6,5] (fun i v wz => ∃ (m : Int) (lv : Value) (ds : List Dd),i = .int .i64 m /\ v = lv /\ 0 <= m /\ (ds.length : Int) + m <= 3 /\ Hid (wz.ownsRow bs 34 ddE.k lv ds.length (ddE.flat ds)) /\ Hid (SmallD ds) /\ Hid (DrawnC w wz p cb co sl sc sa) /\ Hid (BW wz w1.heap.size g n c s) /\ Hid (bs <= wz.heap.size)) (fun i _ _ => (intOf i).toNat)
    case atStart => exact ⟨1 + q,_,[],rfl,rfl,by omega,by simp;omega,HO5,qH SmallD.nil,HD5,HBW5,HW5⟩
    case round =>
     clear HO5 HD5 HBW5 HW5 q0 hq
     obtain ⟨m,lv,ds,rfl,rfl,hm0,hml,HOR,HSM,HDZ,HBZ,HWZ⟩:=hrel
     obtain ⟨an,cn,rfl⟩:=own_shape HOR.out
     by_cases hm : 0 < m
     · go_wp2_with fail
       refine (deedOf_c p cb co sl sc sa _ HDZ.out.src).mono ?_
       rintro e w6 ⟨q0,q1,q2,q3,q4,q5,q6,q7,q8,q9,rfl,hq,hD⟩
       have HSQ:=qH (deedB_small hq)
       have hown:=own_drawn HOR.out hD.gr hpw
       have HO6:=qH hown
       have HD6:=qH (HDZ.out.trans hD)
       have HB6:=qH (HBZ.out.kept hD.gr (by intro e;injection e with e;exact hgp e))
       have hszw : bs <= w6.heap.size:=Nat.le_trans HWZ.out hD.gr.size
       have hn1 : ds.length <= 1048576:=by omega
       have hwk : IntKind.i64.wrap (m - 1) = m - 1:=IntWalk.i64_in _ (by omega)
       clear hq hD HOR HDZ HBZ
       go_wp2_with (at_builtin;refine append_enc ddE rfl (.tmp 27) (.tmp 30) 37 rfl 34 i0 _ 104 Tryz.underlying37 hi hz0 hz1 hz2 (by rfl) (by decide) (by decide) bs (.slice an ds.length cn) ds.length ds (by rfl) hown ⟨q0,q1,q2,q3,q4,q5,q6,q7,q8,q9⟩ _ (by rfl) _ (by rfl) hszw hn1 ?_;intro v' w7 hown7 hg7 _;have HO7:=qH hown7;have HD7:=qH (HD6.out.row hp hcb hg7 (fun g' hg' => Nat.le_trans hww (HO6.out.lt g' hg').1));have HB7:=qH (HB6.out.kept hg7 (fun e => by have:=(HO6.out.lt g e.symm).1;omega));have HW7:=qH (Nat.le_trans hszw hg7.size);clear hown7 hg7 hown)
       go_roundw
       case rel => exact ⟨m - 1,v',ds ++ [⟨q0,q1,q2,q3,q4,q5,q6,q7,q8,q9⟩],rfl,rfl,by omega,by simp;omega,qH (by simpa using HO7.out),qH (HSM.out.snoc HSQ.out),HD7,HB7,HW7⟩
       case measure => simp [intOf];omega
     · have hmz : m = 0:=by omega
       subst hmz
       have hts:=txS_size ds
       have hdl : ds.length <= 3:=by omega
       go_wp2_with fail
       refine (specTxBytes_any an ds.length cn ds _ (DdR.own HOR.out) (by omega) (smallD_max HSM.out)).mono ?_
       rintro e w6 ⟨rfl,hb⟩
       have HD6:=qH (HDZ.out.below hb)
       have hbw6:=HBZ.out.kept (row:=none) ⟨hb.os,hb.tape,hb.output,hb.size,fun k hk _ => hb.block k hk⟩ (by simp)
       have hsz6 : w1.heap.size <= w6.heap.size:=Nat.le_trans HWB.out (Nat.le_trans HWZ.out hb.size)
       generalize txS ds = tx at *
       obtain ⟨g',c',w7,hA,hbw7,hg7⟩:=hbw6.append (P:=Tryz.prog) tx 22 9 22 5 i1 Tryz.underlying22 Tryz.underlying9 hi1 hy0 hy1 hy2 hsz6 (by omega)
       have HB7:=qH hbw7
       have HD7:=qH (HD6.out.row hp hcb hg7 (fun k hk => by cases hk;exact Nat.le_trans HW1.out hbw6.low))
       have HW7:=qH (Nat.le_trans hsz6 hg7.size)
       have hwk : IntKind.i64.wrap (k - 1) = k - 1:=IntWalk.i64_in _ (by omega)
       clear hb hbw6 hbw7 hg7 HD6 HOR HDZ HBZ
       go_wp2_with (at_builtin;refine app_wl rfl _ _ 22 9 22 rfl rfl _ _ _ (by rfl) (by rfl) hA ?_)
       go_roundw
       case rel => exact ⟨k - 1,g',n + tx.size,c',s ++ tx,rfl,rfl,by omega,by omega,by omega,HB7,HD7,HW7⟩
       case measure => simp [intOf];omega
  · have hkz : k = 0:=by omega
    subst hkz
    have hcv:=HBW.out.conv (P:=Tryz.prog) 22 9 5 Tryz.underlying22 Tryz.underlying5 Tryz.underlying9
    have hss : s.size <= 3344:=by have:=HBW.out.len;omega
    clear HBW
    go_wp2_with fail
    refine (n_c p cb co sl sc sa 6 _ HDR.out.src (by omega)).mono ?_
    rintro e w5 ⟨q,rfl,q0,q1,hS1,hg,hz⟩
    have hq : q <= 5:=by omega
    have HD5:=qH (HDR.out.trans ⟨hS1,hg⟩)
    clear q1 hS1 hg hz HDR hcv
    by_cases k0 : q = 0
    · subst k0
      go_wp2_with fail
      refine (spoil_c p cb co sl sc sa s _ HD5.out.src (by omega)).mono ?_
      rintro e w6 ⟨u,rfl,hu,hD⟩
      have HU : Hid (u.size <= 8000):=qH (by omega)
      have HD6:=qH (HD5.out.trans hD)
      clear hu hD HD5
      go_wp2_with fail
      go_ret
      exact ⟨_,rfl,HU.out,HD6.out⟩
    · by_cases k1 : q = 1
      · subst k1
        have hw1 : IntKind.i64.wrap ((s.size : Int) + 1) = (s.size : Int) + 1:=IntWalk.i64_in _ (by omega)
        go_wp2_with fail
        refine (n_c p cb co sl sc sa ((s.size : Int) + 1) _ HD5.out.src (by omega)).mono ?_
        rintro e w6 ⟨j,rfl,j0,j1,hS1,hg,hz⟩
        have hj : j <= s.size:=by omega
        have HD6:=qH (HD5.out.trans ⟨hS1,hg⟩)
        have HU : Hid ((s.extract 0 j.toNat).size <= 8000):=qH (by rw [ByteArray.size_extract];omega)
        clear j1 hS1 hg hz HD5
        go_wp2_with fail
        go_ret
        exact ⟨_,rfl,HU.out,HD6.out⟩
      · by_cases k2 : q = 2
        · subst k2
          go_wp2_with fail
          refine (specPutText_any ⟨#[106,117,110,107]⟩ _ (by decide)).mono ?_
          rintro e w6 ⟨rfl,hb⟩
          have HD6:=qH (HD5.out.below hb)
          have hpt : (putTextS ⟨#[106,117,110,107]⟩).size <= 14:=by
           rw [putTextS_short (by decide),ByteArray.size_append]
           have:=(numS_size (((⟨#[106,117,110,107]⟩ : ByteArray).size : Nat) : Int)).2
           have h4 : (⟨#[106,117,110,107]⟩ : ByteArray).size = 4:=rfl
           omega
          generalize putTextS ⟨#[106,117,110,107]⟩ = pt at *
          have h1 : (s ++ pt).size = s.size + pt.size:=ByteArray.size_append
          have h2 : ((s ++ pt) ++ s).size = s.size + pt.size + s.size:=by rw [ByteArray.size_append,h1]
          have hm1 : ¬ 9223372036854775807 < s.size + pt.size:=by omega
          have hm2 : ¬ 9223372036854775807 < (s ++ pt).size + s.size:=by omega
          have HU : Hid (((s ++ pt) ++ s).size <= 8000):=qH (by omega)
          clear hb HD5
          go_wp2_with fail
          go_ret
          exact ⟨_,rfl,HU.out,HD6.out⟩
        · have HU : Hid (s.size <= 8000):=qH (by omega)
          go_wp2_with fail
          go_ret
          exact ⟨_,rfl,HU.out,HD5.out⟩
theorem drawTxRead_any (ao : Option Addr) (len cap : Nat) (w : World) (hC : CodeAt w ao len) (hl : len <= 1048576) :
 Calls Tryz.prog 7 #[.slice ao len cap] w fun e w' => ∃ t : ByteArray,e = .returned (.string t) /\ t.size <= 8000 /\ Below w.heap.size w w':=by
 go_enter Tryz.func7,Tryz.ntmps7
 go_wp2_with fail
 refine (source_any ao len cap w hC hl).mono ?_
 rintro e w1 ⟨p,rfl,hp,⟨cb,co,sl,sc,sa,hS⟩,hb1⟩
 have HB1:=qH hb1
 clear hb1
 go_wp2_with fail
 refine (log_c p cb co sl sc sa w1 hS).mono ?_
 rintro e w2 ⟨t,rfl,ht,hD⟩
 have HBF:=qH (below_drawn HB1.out (Nat.le_refl _) hp hD.drawn)
 clear hD hS
 go_wp2_with fail
 go_ret
 exact ⟨_,rfl,ht,HBF.out⟩
end Go.Proofs.YtbgoldeopmlbnaaGreatDoor
