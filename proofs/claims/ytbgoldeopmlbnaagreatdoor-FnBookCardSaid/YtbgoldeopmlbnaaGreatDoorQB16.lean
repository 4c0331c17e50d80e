/- Used by the law. -/
import Derived.Lib.SliceRun
import Derived.Test.YtbgoldeopmlbnaaGreatDoorQB15
set_option maxRecDepth 100000
set_option maxHeartbeats 16000000
namespace Go.Proofs.YtbgoldeopmlbnaaGreatDoor
open Go.RowKit Go.PlainAid G IRow
open Go.Maps (Keyed string_keyed)
open Go.WideMaps (keyOf_string_mk)
set_option linter.unusedVariables false
theorem nilTerm (w : World) (a : Option Addr) (n c n' c' : Nat) : (binOp .eql 25 (.slice a n c) (.slice none n' c')).run Tryz.prog w = .ok (.bool a.isNone) w:=Lib.run_eql_slice_nil w _ _ a n c n' c' Tryz.underlying25
theorem clone_any (a : Option Addr) (n cap : Nat) (ts : List Tm) (w : World) (h : TmR w a n cap ts) (hn : n <= 1048576) :
 Calls Tryz.prog 98 #[.slice a n cap] w fun e w' => ∃ v,e = .returned v /\ w'.ownsRow w.heap.size 30 tmE.k v n (tmE.flat ts) /\ Below w.heap.size w w':=by
 obtain ⟨i1,hi1,hz1,hs1,hy1⟩:=info_parts infoTerm
 have hnil:=nilTerm
 cases a with
 | none =>
  have hc:=h.nil rfl
  have hm0 : n = 0:=by have:=h.le;omega
  subst hc hm0
  have hq : ts = []:=List.eq_nil_of_length_eq_zero h.len
  subst hq
  go_enter Tryz.func98,Tryz.ntmps98
  go_wp2_with fail
  go_ret
  exact ⟨_,rfl,World.ownsRow_nil _ _ _ _,Below.refl _ _⟩
 | some ad =>
  have HR : Hid (TmR (w.alloc (.cells #[] 30)) (some ad) n cap ts):=qH (SR.below h ((Below.refl _ _).alloc (Nat.le_refl _) _))
  clear h
  have HO:=qH (own_made0 tmE w 30 (Nat.le_refl _))
  have HB:=qH ((Below.refl w.heap.size w).alloc (Nat.le_refl _) (.cells #[] 30))
  go_enter Tryz.func98,Tryz.ntmps98
  go_wp2_with (at_builtin;refine append_wl tmE tmD rfl _ _ 25 rfl 30 i1 _ 24 Tryz.underlying25 hi1 hz1 hs1 hy1 rfl (by decide) (by decide) w.heap.size _ 0 [] rfl HO.out _ n cap ts rfl HR.out HB.out.size (by omega) (by omega) ?_;intro v' w' ho hg;have HO1:=qH ho;have HB1:=qH (HB.out.grown hg HB.out.size (fun q hq => (HO.out.lt q hq).1));clear ho hg)
  go_ret
  exact ⟨_,rfl,by have:=HO1.out;rwa [Nat.zero_add,List.nil_append] at this,HB1.out⟩
structure Dr (w : World) (base B M : Nat) (v : Value) (b : Bk) : Prop where
 box : BoxC w B [.int .i64 b.c0,.int .i64 b.c1,.int .i64 b.c2,.int .i64 b.c3,v,.map (some M)]
 row : w.ownsRow base 30 tmE.k v b.ts.length (tmE.flat b.ts)
 far : ∀ q,v.ownBlock = some q -> q ≠ B /\ q ≠ M
 hB : base <= B
 hM : base <= M
 ne : M ≠ B
 map : w.ownsMap Tryz.prog 9 imR M b.is.length (mapI b.is)
 rise : RiseI b.is
theorem keyS : Keyed Tryz.prog 9:=string_keyed Tryz.underlying9
theorem imKey_of {s : ByteArray} (hs : s.size <= maxLen) : keyOf Tryz.prog 9 (.string s) = some (imKey s):=keyOf_string_mk Tryz.underlying9 hs
theorem zeroItem (w : World) : (zeroValue 32).run Tryz.prog w = .ok (.agg #[.string ⟨#[]⟩,.int .i64 0,.string ⟨#[]⟩]) w:=by kernel_rfl
theorem map_below {H : Type} {P : Program} {k : TypeId} {R : Value -> Option (DataW H × List MemPlace)} {w w' : World} {b n : Nat} {D : DataW H} (h : w.ownsMap P k R b n D) (hb : Below w.heap.size w w') : w'.ownsMap P k R b n D:=by
 obtain ⟨es,clock,h1,F,hs,hD⟩:=h
 have hlt : b < w.heap.size:=by
  rcases Nat.lt_or_ge b w.heap.size with h2 | h2
  · exact h2
  · rw [Array.getElem?_eq_none h2] at h1;cases h1
 exact ⟨es,clock,(hb.block b hlt).trans h1,F,hs,hD⟩
theorem map_tight {H : Type} {P : Program} {k : TypeId} {R : Value -> Option (DataW H × List MemPlace)} {w : World} {b n : Nat} {D : DataW H} (h : w.ownsMap P k R b n D) : w.ownsMap P k R b (Maps.size D) D:=by
 obtain ⟨es,clock,h1,F,hs,rfl⟩:=h
 exact ⟨es,clock,h1,F,by simp [Maps.size,Go.length_sorted],rfl⟩
theorem Dr.below {w w' : World} {base B M : Nat} {v : Value} {b : Bk} (h : Dr w base B M v b) (hb : Below w.heap.size w w') : Dr w' base B M v b :=
 ⟨h.box.below hb,own_below h.row hb,h.far,h.hB,h.hM,h.ne,map_below h.map hb,h.rise⟩
theorem gen_last (x : Im) : ∀ {l : List Im},RiseI (l ++ [x]) -> genI [x] x.nm l = l ++ [x]
 | [],_ => rfl
 | y :: r,h => by
  obtain ⟨h0,hr⟩:=List.pairwise_cons.1 (show RiseI (y :: (r ++ [x])) from h)
  unfold genI
  rw [if_pos (h0 x (by simp)),gen_last x hr]
  rfl
theorem draftOf_any (b : Bk) (a1 a2 : Option Addr) (n1 n2 a3 a4 : Nat) (w : World) (h : BkR w a1 n1 a3 a2 n2 a4 b.ts b.is) (hn1 : n1 <= 5) (hn2 : n2 <= 8) (hr : RiseI b.is) (hs2 : ∀ t,t < n2 -> (b.is.getD t imD).nm.size <= maxLen) :
 Calls Tryz.prog 81 #[.agg #[.int .i64 b.c0,.int .i64 b.c1,.int .i64 b.c2,.int .i64 b.c3,.slice a1 n1 a3,.slice a2 n2 a4]] w fun e w' => ∃ B M v,e = .returned (.pointer (some ⟨B,0,none⟩)) /\ Dr w' w.heap.size B M v b /\ Below w.heap.size w w':=by
 obtain ⟨c0,c1,c2,c3,ts,is⟩:=b
 dsimp only at h hr hs2 ⊢
 have hl1 : ts.length = n1:=h.t.len
 have hl2 : is.length = n2:=h.i.len
 have HS2:=qH hs2
 have HR:=qH h
 have HRI:=qH hr
 clear hs2 h hr
 have hmm:=@run_makeMap Tryz.prog
 go_enter Tryz.func81,Tryz.ntmps81
 go_wp2_with fail
 have HM0 : Hid (((w.alloc (.cells #[.int .i64 c0,.int .i64 c1,.int .i64 c2,.int .i64 c3,.slice a1 n1 a3,.slice a2 n2 a4] 28)).alloc (.map #[] 0)).ownsMap Tryz.prog 9 imR (w.heap.size + 1) 0 (mapI (is.take 0))):=qH (by have:=World.ownsMap_made (w.alloc (.cells #[.int .i64 c0,.int .i64 c1,.int .i64 c2,.int .i64 c3,.slice a1 n1 a3,.slice a2 n2 a4] 28)) Tryz.prog 9 imR;rwa [World.size_alloc] at this)
 have HB0 : Hid (Below w.heap.size w ((w.alloc (.cells #[.int .i64 c0,.int .i64 c1,.int .i64 c2,.int .i64 c3,.slice a1 n1 a3,.slice a2 n2 a4] 28)).alloc (.map #[] 0))):=qH (((Below.refl _ _).alloc (Nat.le_refl _) _).alloc (by simp) _)
 have HA0 : Hid (BoxC ((w.alloc (.cells #[.int .i64 c0,.int .i64 c1,.int .i64 c2,.int .i64 c3,.slice a1 n1 a3,.slice a2 n2 a4] 28)).alloc (.map #[] 0)) w.heap.size [.int .i64 c0,.int .i64 c1,.int .i64 c2,.int .i64 c3,.slice a1 n1 a3,.slice a2 n2 a4]):=qH ((BoxC.made _ _ _).alloc _)
 go_loopw [10] (fun i wr => ∃ k : Nat,k <= n2 /\ i = .int .i64 k /\ Hid (wr.ownsMap Tryz.prog 9 imR (w.heap.size + 1) k (mapI (is.take k))) /\ Hid (Below w.heap.size w wr) /\ Hid (BoxC wr w.heap.size [.int .i64 c0,.int .i64 c1,.int .i64 c2,.int .i64 c3,.slice a1 n1 a3,.slice a2 n2 a4])) (fun i _ => n2 - (intOf i).toNat)
 case atStart => exact ⟨0,Nat.zero_le _,rfl,HM0,HB0,HA0⟩
 case round =>
  obtain ⟨k,hk,rfl,HM,HB,HA⟩:=hrel
  clear HM0 HB0 HA0
  by_cases hlt : k < n2
  · obtain ⟨g,o,rfl,hg,t0,t1,t2⟩:=ImR.at (SR.below HR.out.i HB.out) hlt
    have hin : 0 <= (k : Int) /\ (k : Int) < (n2 : Int):=by omega
    have hsz:=HS2.out k hlt
    have HN : Hid (mapI (is.take (k + 1)) = (mapI (is.take k)).put (imKey (is.getD k imD).nm) (imDat (is.getD k imD))):=qH (by
     have e1 : is.take (k + 1) = is.take k ++ [is.getD k imD]:=by
      rw [show is.getD k imD = is[k]'(by omega) by simp [List.getD,List.getElem?_eq_getElem (show k < is.length by omega)]]
      exact (List.take_append_getElem (by omega)).symm
     have e2 : RiseI (is.take (k + 1)):=List.Pairwise.sublist (List.take_sublist _ _) HRI.out
     rw [e1] at e2
     rw [e1,<- gen_last _ e2]
     exact mapI_put (List.Pairwise.sublist (List.take_sublist _ _) HRI.out))
    have HIM : Hid (is.getD k imD = ⟨(is.getD k imD).nm,(is.getD k imD).tm,(is.getD k imD).bd⟩):=qH rfl
    generalize is.getD k imD = im at *
    obtain ⟨nm,tm,bd⟩:=im
    dsimp only at t0 t1 t2 hsz HN
    clear HIM
    have hown:=World.ownsMap.alloc HM.out (.cells #[.string nm,.int .i64 tm,.string bd] 32)
    go_wp2_with (at_mapUpdate;refine wpList_mapUpdate_own _ rfl _ _ _ 134 rfl 9 32 keyS Tryz.underlying134 imR (w.heap.size + 1) k _ rfl hown (by unfold maxLen;omega) _ _ (imKey nm) rfl rfl (imKey_of hsz) (imDat ⟨nm,tm,bd⟩) [] rfl ?_;intro w5 hown5 hg5)
    have HB5 : Hid (Below w.heap.size w w5):=qH ((HB.out.alloc HB.out.size _).grown hg5 (HB.out.alloc HB.out.size _).size (fun q hq => by simp at hq;omega))
    have HA5 : Hid (BoxC w5 w.heap.size [.int .i64 c0,.int .i64 c1,.int .i64 c2,.int .i64 c3,.slice a1 n1 a3,.slice (some ⟨g,o,none⟩) n2 a4]):=qH ((HA.out.alloc _).grown hg5 (by simp))
    rw [<- HN.out] at hown5
    have HM5:=qH hown5
    clear hown5 hg5 hown t0 t1 t2
    go_roundw
    case rel => exact ⟨k + 1,by omega,by go_num,HM5,HB5,HA5⟩
    case measure => simp [intOf];omega
  · obtain rfl : n2 = k:=by omega
    have x0:=HA.out.cell 0 _ rfl
    have x1:=HA.out.cell 1 _ rfl
    have x2:=HA.out.cell 2 _ rfl
    have x3:=HA.out.cell 3 _ rfl
    have x4:=HA.out.cell 4 _ rfl
    go_wp2_with fail
    have hmx : Tryz.prog.follows .mixedOrders = true:=by kernel_rfl
    refine TillZ.region (t:=8) hmx (fun u => BoxC u w.heap.size [.int .i64 c0,.int .i64 c1,.int .i64 c2,.int .i64 c3,.slice a1 n1 a3,.slice a2 n2 a4]) ?_
    have hS0:=HA.out.drew
    clear x0 x1 x2 x3 x4
    refine TillZ.take4 (i:=0) (v:=.pointer (some ⟨w.heap.size,0,none⟩)) rfl rfl rfl (by kernel_rfl) hS0 (fun u hu => by go_simp) ?_
    simp only [pS,List.set,zT,zZ]
    refine TillZ.take4 (i:=1) (v:=.agg #[.int .i64 c0,.int .i64 c1,.int .i64 c2,.int .i64 c3]) rfl rfl rfl (by kernel_rfl) hS0 (fun u hu => by have z0:=hu.cell 0 _ rfl;have z1:=hu.cell 1 _ rfl;have z2:=hu.cell 2 _ rfl;have z3:=hu.cell 3 _ rfl;go_simp) ?_
    simp only [pS,List.set,zT,zZ,zU]
    refine TillZ.take4 (i:=2) (v:=.pointer (some ⟨w.heap.size,4,none⟩)) rfl rfl rfl (by kernel_rfl) hS0 (fun u hu => by go_simp) ?_
    simp only [pS,List.set,zT,zZ,zU]
    refine TillZ.take4 (i:=3) (v:=.slice a1 n1 a3) rfl rfl rfl (by kernel_rfl) hS0 (fun u hu => by have z4:=hu.cell 4 _ rfl;go_simp) ?_
    simp only [pS,List.set,zT,zZ,zU]
    refine TillZ.take4 (i:=5) (v:=.map (some (w.heap.size + 1))) rfl rfl rfl (by kernel_rfl) hS0 (fun u hu => by go_simp) ?_
    simp only [pS,List.set,zT,zZ,zU]
    refine TillZ.call (i:=4) (f:=98) (args:=#[.slice a1 n1 a3]) (by kernel_rfl) rfl rfl rfl (by go_simp) ?_
    refine Calls.mono (clone_any a1 n1 a3 ts _ (HR.out.below HB.out.drew).t (by omega)) ?_
    rintro e w6 ⟨v,rfl,ho,hb⟩
    obtain ⟨va,vc,rfl⟩:=own_shape ho
    have hS1:=hS0.below hb
    have HB6:=qH (HB.out.drew.trans (hb.mono HB.out.size))
    have HM6:=qH (map_below (World.ownsMap.drew HM.out) hb)
    have hlow : ∀ q,(Value.slice va n1 vc).ownBlock = some q -> w.heap.size + 1 < q:=fun q hq => Nat.lt_of_lt_of_le (World.ownsMap.lt HM.out) (ho.lt q hq).1
    have hlt2 : ∀ q,(Value.slice va n1 vc).ownBlock = some q -> q < w6.heap.size:=fun q hq => (ho.lt q hq).2
    have HO6:=qH (own_mono ho HB.out.size)
    refine ⟨_,rfl,hS1,?_⟩
    clear hb hS0 ho
    simp only [pS,List.set,zT,zZ,zU]
    refine TillZ.one (i:=6) (by kernel_rfl) ?_
    refine TillZ.opz (i:=6) (v:=.agg #[.int .i64 c0,.int .i64 c1,.int .i64 c2,.int .i64 c3,.slice va n1 vc,.map (some (w.heap.size + 1))]) (w':=w6) rfl rfl rfl (by go_simp) hS1 ?_
    simp only [pS,List.set,zT,zZ,zU]
    refine TillZ.one (i:=7) (by kernel_rfl) ?_
    refine TillZ.opz (i:=7) (v:=.pointer (some ⟨w6.heap.size,0,none⟩)) (w':=w6.alloc (.cells #[.int .i64 c0,.int .i64 c1,.int .i64 c2,.int .i64 c3,.slice va n1 vc,.map (some (w.heap.size + 1))] 137)) rfl rfl rfl (by go_simp) (hS1.alloc _) ?_
    simp only [pS,List.set,zT,zZ,zU]
    refine TillZ.hand (v:=.pointer (some ⟨w6.heap.size,0,none⟩)) (by kernel_rfl) rfl rfl (by go_simp) ?_
    simp only [pS,List.set,zT,zZ,zU]
    refine TillZ.any_done (by kernel_rfl) ?_ _
    have hDr : Dr (w6.alloc (.cells #[.int .i64 c0,.int .i64 c1,.int .i64 c2,.int .i64 c3,.slice va n1 vc,.map (some (w.heap.size + 1))] 137)) w.heap.size w6.heap.size (w.heap.size + 1) (.slice va n1 vc) ⟨c0,c1,c2,c3,ts,is⟩ :=
     ⟨BoxC.made _ _ _,by dsimp only;rw [hl1];exact World.ownsRow.alloc HO6.out _,fun q hq => ⟨by have:=hlt2 q hq;omega,by have:=hlow q hq;omega⟩,HB6.out.size,by omega,by have:=World.ownsMap.lt HM6.out;omega,by
      have:=HM6.out
      rw [List.take_of_length_le (by omega)] at this
      dsimp only
      rw [hl2]
      exact World.ownsMap.alloc this _,HRI.out⟩
    have HDR:=qH hDr
    have HB7:=qH (HB6.out.alloc HB6.out.size (.cells #[.int .i64 c0,.int .i64 c1,.int .i64 c2,.int .i64 c3,.slice va n1 vc,.map (some (w.heap.size + 1))] 137))
    clear hDr hlow hlt2
    go_wp2_with fail
    go_ret
    exact ⟨_,_,_,rfl,HDR.out,HB7.out⟩
end Go.Proofs.YtbgoldeopmlbnaaGreatDoor
namespace Go.Proofs.YtbgoldeopmlbnaaGreatDoor
open Go.RowKit Go.PlainAid G IRow
set_option linter.unusedVariables false
theorem Dr.conf {w : World} {base B M : Nat} {v : Value} {b : Bk} (h : Dr w base B M v b) (q1 q2 q3 q4 : Int) :
 Dr ((((w.setCell ⟨B,0,none⟩ (.int .i64 q1)).setCell ⟨B,1,none⟩ (.int .i64 q2)).setCell ⟨B,2,none⟩ (.int .i64 q3)).setCell ⟨B,3,none⟩ (.int .i64 q4)) base B M v ⟨q1,q2,q3,q4,b.ts,b.is⟩ where
 box:=(((h.box.set (j:=0) (by simp) (.int .i64 q1)).set (j:=1) (by simp) (.int .i64 q2)).set (j:=2) (by simp) (.int .i64 q3)).set (j:=3) (by simp) (.int .i64 q4)
 row:=own_other (own_other (own_other (own_other h.row (b:=B) (fun q hq => (h.far q hq).1) ⟨B,0,none⟩ (.int .i64 q1) rfl) (b:=B) (fun q hq => (h.far q hq).1) ⟨B,1,none⟩ (.int .i64 q2) rfl) (b:=B) (fun q hq => (h.far q hq).1) ⟨B,2,none⟩ (.int .i64 q3) rfl) (b:=B) (fun q hq => (h.far q hq).1) ⟨B,3,none⟩ (.int .i64 q4) rfl
 far:=h.far
 hB:=h.hB
 hM:=h.hM
 ne:=h.ne
 map:=(((h.map.setCell (a:=⟨B,0,none⟩) h.ne _).setCell (a:=⟨B,1,none⟩) h.ne _).setCell (a:=⟨B,2,none⟩) h.ne _).setCell (a:=⟨B,3,none⟩) h.ne _
 rise:=h.rise
theorem below_conf {w0 w : World} {base B : Nat} (hb : Below base w0 w) (hB : base <= B) (q1 q2 q3 q4 : Int) :
 Below base w0 ((((w.setCell ⟨B,0,none⟩ (.int .i64 q1)).setCell ⟨B,1,none⟩ (.int .i64 q2)).setCell ⟨B,2,none⟩ (.int .i64 q3)).setCell ⟨B,3,none⟩ (.int .i64 q4)) :=
 (((hb.setCell (p:=⟨B,0,none⟩) hB (.int .i64 q1)).setCell (p:=⟨B,1,none⟩) hB (.int .i64 q2)).setCell (p:=⟨B,2,none⟩) hB (.int .i64 q3)).setCell (p:=⟨B,3,none⟩) hB (.int .i64 q4)
theorem Dr.terms {w : World} {base B M : Nat} {v v' : Value} {b : Bk} {ts' : List Tm} (h : Dr w base B M v b) (hr : w.ownsRow base 30 tmE.k v' ts'.length (tmE.flat ts')) (hf : ∀ q,v'.ownBlock = some q -> q ≠ B /\ q ≠ M) :
 Dr (w.setCell ⟨B,4,none⟩ v') base B M v' ⟨b.c0,b.c1,b.c2,b.c3,ts',b.is⟩ where
 box:=h.box.set (j:=4) (by simp) v'
 row:=own_other hr (b:=B) (fun q hq => (hf q hq).1) ⟨B,4,none⟩ v' rfl
 far:=hf
 hB:=h.hB
 hM:=h.hM
 ne:=h.ne
 map:=h.map.setCell (a:=⟨B,4,none⟩) h.ne _
 rise:=h.rise
theorem confDo_any (q1 q2 q3 q4 : Int) {w : World} {base B M : Nat} {v : Value} {b : Bk} (h : Dr w base B M v b) (hbs : base <= w.heap.size) :
 Calls Tryz.prog 159 #[.agg #[.int .i64 q1,.int .i64 q2,.int .i64 q3,.int .i64 q4],.pointer (some ⟨B,0,none⟩)] w fun e w' => e = .returned (.int .i64 0) /\ Dr w' base B M v ⟨q1,q2,q3,q4,b.ts,b.is⟩ /\ Below base w w':=by
 have HLT : Hid (∀ q,v.ownBlock = some q -> q < w.heap.size):=qH (fun q hq => (h.row.lt q hq).2)
 have HB1 : Hid (Dr (w.alloc (.cells #[.int .i64 q1,.int .i64 q2,.int .i64 q3,.int .i64 q4] 96)) base B M v b):=qH (h.below ((Below.refl _ _).alloc (Nat.le_refl _) _))
 have HBB : Hid (Below base w (w.alloc (.cells #[.int .i64 q1,.int .i64 q2,.int .i64 q3,.int .i64 q4] 96))):=qH ((Below.refl _ _).alloc hbs _)
 have HBS:=qH hbs
 clear h
 have x0:=HB1.out.box.cell 0 _ rfl
 have f0:=HB1.out.box.free 0
 have x1:=HB1.out.box.cell 1 _ rfl
 have f1:=HB1.out.box.free 1
 have x2:=HB1.out.box.cell 2 _ rfl
 have f2:=HB1.out.box.free 2
 have x3:=HB1.out.box.cell 3 _ rfl
 have f3:=HB1.out.box.free 3
 go_enter Tryz.func159,Tryz.ntmps159
 go_wp2_with fail
 go_ret
 exact ⟨rfl,HB1.out.conf q1 q2 q3 q4,below_conf HBB.out HB1.out.hB q1 q2 q3 q4⟩
theorem begin_any (q1 q2 q3 q4 : Int) {w : World} {base B M : Nat} {v : Value} {b : Bk} (h : Dr w base B M v b) (hbs : base <= w.heap.size) :
 Calls Tryz.prog 99 #[.pointer (some ⟨B,0,none⟩),.agg #[.int .i64 q1,.int .i64 q2,.int .i64 q3,.int .i64 q4]] w fun e w' => e = .returned (.tuple #[]) /\ ∃ v',Dr w' base B M v' ⟨q1,q2,q3,q4,[⟨1,⟨#[120]⟩⟩],b.is⟩ /\ Below base w w':=by
 have HLT : Hid (∀ q,v.ownBlock = some q -> q < w.heap.size):=qH (fun q hq => (h.row.lt q hq).2)
 have HB1 : Hid (Dr (w.alloc (.cells #[.int .i64 q1,.int .i64 q2,.int .i64 q3,.int .i64 q4] 96)) base B M v b):=qH (h.below ((Below.refl _ _).alloc (Nat.le_refl _) _))
 have HBB : Hid (Below base w (w.alloc (.cells #[.int .i64 q1,.int .i64 q2,.int .i64 q3,.int .i64 q4] 96))):=qH ((Below.refl _ _).alloc hbs _)
 have HBS:=qH hbs
 clear h
 have x0:=HB1.out.box.cell 0 _ rfl
 have f0:=HB1.out.box.free 0
 have x1:=HB1.out.box.cell 1 _ rfl
 have f1:=HB1.out.box.free 1
 have x2:=HB1.out.box.cell 2 _ rfl
 have f2:=HB1.out.box.free 2
 have x3:=HB1.out.box.cell 3 _ rfl
 have f3:=HB1.out.box.free 3
 have x4:=HB1.out.box.cell 4 _ rfl
 have f4:=HB1.out.box.free 4
 have HC:=qH (HB1.out.conf q1 q2 q3 q4)
 have HCB:=qH (below_conf HBB.out HB1.out.hB q1 q2 q3 q4)
 go_enter Tryz.func99,Tryz.ntmps99
 go_upto_region 2 with fail
 clear x0 f0 x1 f1 x2 f2 x3 f3 x4 f4
 generalize (((((w.alloc (.cells #[.int .i64 q1,.int .i64 q2,.int .i64 q3,.int .i64 q4] 96)).setCell ⟨B,0,none⟩ (.int .i64 q1)).setCell ⟨B,1,none⟩ (.int .i64 q2)).setCell ⟨B,2,none⟩ (.int .i64 q3)).setCell ⟨B,3,none⟩ (.int .i64 q4)) = V at *
 have HD:=qH (HC.out.below ((Below.refl _ _).alloc (Nat.le_refl _) (.cells #[.int .i64 1,.string ⟨#[120]⟩] 30)))
 have HDB:=qH (HCB.out.alloc (Nat.le_trans HBS.out HCB.out.size) (.cells #[.int .i64 1,.string ⟨#[120]⟩] 30))
 have HRW : Hid ((V.alloc (.cells #[.int .i64 1,.string ⟨#[120]⟩] 30)).ownsRow V.heap.size 30 tmE.k (.slice (some ⟨V.heap.size,0,none⟩) 1 1) 1 (tmE.flat [⟨1,⟨#[120]⟩⟩])):=qH (World.ownsRow_lit V #[.int .i64 1,.string ⟨#[120]⟩] 1 (Nat.le_refl _) (by decide) rfl)
 have x4:=HD.out.box.cell 4 _ rfl
 have f4:=HD.out.box.free 4
 go_wp2_with fail
 refine bodyPost_end (v:=.tuple #[]) (by simp [results,Tryz.results99,go_sem]) rfl ?_
 refine ⟨rfl,_,HD.out.terms (ts':=[⟨1,⟨#[120]⟩⟩]) (own_mono HRW.out (Nat.le_trans HBS.out HCB.out.size)) (fun q hq => ?_),HDB.out.setCell (p:=⟨B,4,none⟩) HD.out.hB _⟩
 simp [Value.ownBlock] at hq
 have h1:=HC.out.box.lt
 have h2:=World.ownsMap.lt HC.out.map
 omega
def lookI (is : List Im) (nm : ByteArray) : Im:=if hasI is nm = true then is.getD (atI is nm) imD else ⟨⟨#[]⟩,0,⟨#[]⟩⟩
theorem look_any {is : List Im} (hr : RiseI is) {u : World} {M n : Nat} (hown : u.ownsMap Tryz.prog 9 imR M n (mapI is)) {nm : ByteArray} (hq : nm.size <= maxLen) :
 (Instr.lookup 134 (.map (some M)) (.string nm) true).run Tryz.prog u = .ok (.tuple #[.agg #[.string (lookI is nm).nm,.int .i64 (lookI is nm).tm,.string (lookI is nm).bd],.bool (hasI is nm)]) u:=by
 obtain ⟨v,ps,hrun,hv⟩:=hown.look_ok keyS Tryz.underlying134 (zeroItem u) (zd:=imDat ⟨⟨#[]⟩,0,⟨#[]⟩⟩) (zp:=[]) rfl (imKey_of hq)
 rw [has_mapI nm hr] at hrun
 have hx : (mapI is).atKey (imKey nm) (imDat ⟨⟨#[]⟩,0,⟨#[]⟩⟩) = imDat (lookI is nm):=by
  unfold lookI
  cases hh : hasI is nm
  · rw [if_neg (by decide)]
    exact Maps.atKey_of_not_has (by rw [has_mapI nm hr,hh]) _
  · rw [if_pos rfl]
    unfold hasI at hh
    rw [Bool.and_eq_true,decide_eq_true_eq,decide_eq_true_eq] at hh
    have hm : is.getD (atI is nm) imD ∈ is:=by
     rw [List.getD,List.getElem?_eq_getElem hh.1]
     exact List.getElem_mem hh.1
    have:=at_mapI hr hm (imDat ⟨⟨#[]⟩,0,⟨#[]⟩⟩)
    rwa [hh.2] at this
 rw [hx] at hv
 have hv2:=imR_inv hv
 rw [hrun,hv2]
theorem own_apart {w w' : World} {base : Nat} {e : TypeId} {size : Nat} {v : Value} {n : Nat} {xs : List Value} {M : Nat} (h : w.ownsRow base e size v n xs) (hg : w.grownBy w' (some M)) (hne : ∀ g,v.ownBlock = some g -> g ≠ M) : w'.ownsRow base e size v n xs:=by
 refine h.kept hg ?_
 cases hv : v.ownBlock with
 | none => exact .inl rfl
 | some g => exact .inr (fun e => hne g hv (Option.some.inj e))
theorem Dr.mapped {w w' : World} {base B M n : Nat} {v : Value} {b : Bk} {is' : List Im} (h : Dr w base B M v b) (hg : w.grownBy w' (some M)) (hm : w'.ownsMap Tryz.prog 9 imR M n (mapI is')) (hr : RiseI is') : Dr w' base B M v ⟨b.c0,b.c1,b.c2,b.c3,b.ts,is'⟩ where
 box:=h.box.grown hg (fun e => h.ne (Option.some.inj e).symm)
 row:=own_apart h.row hg (fun q hq => (h.far q hq).2)
 far:=h.far
 hB:=h.hB
 hM:=h.hM
 ne:=h.ne
 map:=by have:=map_tight hm;rwa [size_mapI] at this
 rise:=hr
theorem imR_shape {v : Value} {z : DataW Unit × List MemPlace} (h : imR v = some z) : ∃ nm tm bd,v = .agg #[.string nm,.int .i64 tm,.string bd]:=by
 unfold imR at h
 split at h
 · split at h
   · rename_i e
     exact ⟨_,_,_,congrArg Value.agg (Array.toList_inj.1 e)⟩
   · cases h
 · cases h
theorem delDo_no (q7 : ByteArray) {w : World} {base B M : Nat} {v : Value} {b : Bk} (h : Dr w base B M v b) (hbs : base <= w.heap.size) (hq : q7.size <= maxLen) (hh : hasI b.is q7 = false) :
 Calls Tryz.prog 171 #[.string q7,.pointer (some ⟨B,0,none⟩)] w fun e w' => e = .returned (.int .i64 6) /\ Below base w w':=by
 have x5:=h.box.cell 5 _ rfl
 have HB1:=qH h
 have HBB : Hid (Below base w w):=qH (Below.refl _ _)
 have HBS:=qH hbs
 have HHAS:=qH hh
 clear h hh
 go_enter Tryz.func171,Tryz.ntmps171
 go_wp2_with (at_lookup;refine wpList_lookup_own_ok _ rfl _ _ 134 rfl 9 32 keyS Tryz.underlying134 imR (zeroItem _) (imDat ⟨⟨#[]⟩,0,⟨#[]⟩⟩) [] rfl M _ (mapI b.is) rfl HB1.out.map _ (imKey q7) rfl (imKey_of hq) ?_;intro vv ps hv;obtain ⟨vn,vt,vb,rfl⟩:=imR_shape hv;rw [has_mapI _ HB1.out.rise,HHAS.out];clear hv;have HB2:=qH (HB1.out.below ((Below.refl _ _).alloc (Nat.le_refl _) (.cells #[.string vn,.int .i64 vt,.string vb] 32)));have HBB2:=qH (HBB.out.alloc (Nat.le_trans HBS.out HBB.out.size) (.cells #[.string vn,.int .i64 vt,.string vb] 32));have y5:=HB2.out.box.cell 5 _ rfl;have y4:=HB2.out.box.cell 4 _ rfl)
 go_ret
 exact ⟨rfl,HBB2.out⟩
theorem delDo_yes (q7 : ByteArray) {w : World} {base B M : Nat} {v : Value} {b : Bk} (h : Dr w base B M v b) (hbs : base <= w.heap.size) (hq : q7.size <= maxLen) (hh : hasI b.is q7 = true) :
 Calls Tryz.prog 171 #[.string q7,.pointer (some ⟨B,0,none⟩)] w fun e w' => e = .returned (.int .i64 0) /\ Dr w' base B M v ⟨b.c0,b.c1,b.c2,b.c3,b.ts,genI [] q7 b.is⟩ /\ Below base w w':=by
 have x5:=h.box.cell 5 _ rfl
 have HB1:=qH h
 have HBB : Hid (Below base w w):=qH (Below.refl _ _)
 have HBS:=qH hbs
 have HHAS:=qH hh
 clear h hh
 go_enter Tryz.func171,Tryz.ntmps171
 go_wp2_with (first | (at_lookup;refine wpList_lookup_own_ok _ rfl _ _ 134 rfl 9 32 keyS Tryz.underlying134 imR (zeroItem _) (imDat ⟨⟨#[]⟩,0,⟨#[]⟩⟩) [] rfl M _ (mapI b.is) rfl HB1.out.map _ (imKey q7) rfl (imKey_of hq) ?_;intro vv ps hv;obtain ⟨vn,vt,vb,rfl⟩:=imR_shape hv;rw [has_mapI _ HB1.out.rise,HHAS.out];clear hv;have HB2:=qH (HB1.out.below ((Below.refl _ _).alloc (Nat.le_refl _) (.cells #[.string vn,.int .i64 vt,.string vb] 32)));have HBB2:=qH (HBB.out.alloc (Nat.le_trans HBS.out HBB.out.size) (.cells #[.string vn,.int .i64 vt,.string vb] 32));have y5:=HB2.out.box.cell 5 _ rfl;have y4:=HB2.out.box.cell 4 _ rfl) | (at_delete;refine wpList_delete_own _ rfl _ _ 134 9 rfl 32 keyS Tryz.underlying134 imR M _ (mapI b.is) rfl HB2.out.map _ (imKey q7) rfl (imKey_of hq) ?_;intro w1 hown1 hturn1;have HT:=qH hturn1.grown;have HO:=qH hown1;clear hown1 hturn1))
 go_ret
 exact ⟨rfl,HB2.out.mapped HT.out (by rw [mapI_del HB1.out.rise];exact HO.out) (gen_rise (.inl rfl) HB1.out.rise),HBB2.out.grown HT.out (Nat.le_trans HBS.out HBB2.out.size) (fun q hq => by have:=HB1.out.hM;simp at hq;omega)⟩
theorem putDo_none (q7 : ByteArray) (q8 : Int) (q9 : ByteArray) {w : World} {base B M : Nat} {v : Value} {b : Bk} (h : Dr w base B M v b) (hbs : base <= w.heap.size) (hq : q7.size <= maxLen) (ht : b.ts.length <= 5) (hi : b.is.length <= 8) (hn : (b.ts.length : Int) < q8) :
 Calls Tryz.prog 167 #[.agg #[.string q7,.int .i64 q8,.string q9],.pointer (some ⟨B,0,none⟩)] w fun e w' => e = .returned (.int .i64 6) /\ Below base w w':=by
 have HX : Hid (BoxC (w.alloc (.cells #[.string q7,.int .i64 q8,.string q9] 98)) w.heap.size [.string q7,.int .i64 q8,.string q9]):=qH (BoxC.made _ _ _)
 have HLT : Hid (∀ q,v.ownBlock = some q -> q < w.heap.size):=qH (fun q hq => (h.row.lt q hq).2)
 have HB1 : Hid (Dr (w.alloc (.cells #[.string q7,.int .i64 q8,.string q9] 98)) base B M v b):=qH (h.below ((Below.refl _ _).alloc (Nat.le_refl _) _))
 have HBB : Hid (Below base w (w.alloc (.cells #[.string q7,.int .i64 q8,.string q9] 98))):=qH ((Below.refl _ _).alloc hbs _)
 have HBS:=qH hbs
 clear h
 obtain ⟨va,vc,rfl⟩:=own_shape HB1.out.row
 obtain ⟨V,hV⟩ : ∃ V,V = w.alloc (.cells #[.string q7,.int .i64 q8,.string q9] 98):=⟨_,rfl⟩
 rw [<- hV] at HX HB1 HBB
 have HBV:=qH (show base <= V.heap.size from Nat.le_trans HBS.out HBB.out.size)
 have x5:=HB1.out.box.cell 5 _ rfl
 have x4:=HB1.out.box.cell 4 _ rfl
 have d0:=HX.out.cell 0 _ rfl
 have d1:=HX.out.cell 1 _ rfl
 have d2:=HX.out.cell 2 _ rfl
 have hw : IntKind.i64.wrap (b.ts.length : Int) = (b.ts.length : Int):=IntWalk.i64_in _ (by omega)
 go_enter Tryz.func167,Tryz.ntmps167
 go_upto_region 1 with fail
 rw [<- hV]
 clear hV
 go_region
 go_wp2_with fail
 go_ret
 exact ⟨rfl,HBB.out.drew⟩
theorem putDo_full (q7 : ByteArray) (q8 : Int) (q9 : ByteArray) {w : World} {base B M : Nat} {v : Value} {b : Bk} (h : Dr w base B M v b) (hbs : base <= w.heap.size) (hq : q7.size <= maxLen) (ht : b.ts.length <= 5) (hi : b.is.length <= 8) (hn : ¬ (b.ts.length : Int) < q8) (hh : hasI b.is q7 = false) (h8 : 8 <= b.is.length) :
 Calls Tryz.prog 167 #[.agg #[.string q7,.int .i64 q8,.string q9],.pointer (some ⟨B,0,none⟩)] w fun e w' => e = .returned (.int .i64 9) /\ Below base w w':=by
 have HX : Hid (BoxC (w.alloc (.cells #[.string q7,.int .i64 q8,.string q9] 98)) w.heap.size [.string q7,.int .i64 q8,.string q9]):=qH (BoxC.made _ _ _)
 have HLT : Hid (∀ q,v.ownBlock = some q -> q < w.heap.size):=qH (fun q hq => (h.row.lt q hq).2)
 have HB1 : Hid (Dr (w.alloc (.cells #[.string q7,.int .i64 q8,.string q9] 98)) base B M v b):=qH (h.below ((Below.refl _ _).alloc (Nat.le_refl _) _))
 have HBB : Hid (Below base w (w.alloc (.cells #[.string q7,.int .i64 q8,.string q9] 98))):=qH ((Below.refl _ _).alloc hbs _)
 have HBS:=qH hbs
 clear h
 obtain ⟨va,vc,rfl⟩:=own_shape HB1.out.row
 obtain ⟨V,hV⟩ : ∃ V,V = w.alloc (.cells #[.string q7,.int .i64 q8,.string q9] 98):=⟨_,rfl⟩
 rw [<- hV] at HX HB1 HBB
 have HBV:=qH (show base <= V.heap.size from Nat.le_trans HBS.out HBB.out.size)
 have x5:=HB1.out.box.cell 5 _ rfl
 have x4:=HB1.out.box.cell 4 _ rfl
 have d0:=HX.out.cell 0 _ rfl
 have d1:=HX.out.cell 1 _ rfl
 have d2:=HX.out.cell 2 _ rfl
 have hw : IntKind.i64.wrap (b.ts.length : Int) = (b.ts.length : Int):=IntWalk.i64_in _ (by omega)
 go_enter Tryz.func167,Tryz.ntmps167
 go_upto_region 1 with fail
 rw [<- hV]
 clear hV
 have HHAS:=qH hh
 clear hh
 go_region
 go_upto_region 3 with fail
 clear x4 x5 d0 d1 d2
 have hmx : Tryz.prog.follows .mixedOrders = true:=by kernel_rfl
 have HDR : Hid (∀ u,Below V.drew.drew.heap.size V.drew.drew u -> Dr u base B M (.slice va b.ts.length vc) b):=qH (fun u hu => (HB1.out.below (Below.refl _ _).drew.drew).below hu)
 have HDX : Hid (∀ u,Below V.drew.drew.heap.size V.drew.drew u -> BoxC u w.heap.size [.string q7,.int .i64 q8,.string q9]):=qH (fun u hu => (HX.out.below (Below.refl _ _).drew.drew).below hu)
 have HBU : Hid (∀ u,Below V.drew.drew.heap.size V.drew.drew u -> Below base w u):=qH (fun u hu => HBB.out.drew.drew.trans (hu.mono HBV.out))
 refine TillZ.region (t:=12) hmx (fun u => Below V.drew.drew.heap.size V.drew.drew u) ?_
 have hS0 : Below V.drew.drew.heap.size V.drew.drew V.drew.drew:=Below.refl _ _
 refine TillZ.take4 (i:=0) (v:=.pointer (some ⟨B,0,none⟩)) rfl rfl rfl (by kernel_rfl) hS0 (fun u hu => by go_simp) ?_
 simp only [pS,List.set,zT,zZ]
 refine TillZ.take4 (i:=1) (v:=.pointer (some ⟨B,0,none⟩)) rfl rfl rfl (by kernel_rfl) hS0 (fun u hu => by go_simp) ?_
 simp only [pS,List.set,zT,zZ,zU]
 refine TillZ.take4 (i:=2) (v:=.pointer (some ⟨B,5,none⟩)) rfl rfl rfl (by kernel_rfl) hS0 (fun u hu => by go_simp) ?_
 simp only [pS,List.set,zT,zZ,zU]
 refine TillZ.take4 (i:=3) (v:=.map (some M)) rfl rfl rfl (by kernel_rfl) hS0 (fun u hu => by have z:=(HDR.out u hu).box.cell 5 _ rfl;go_simp) ?_
 simp only [pS,List.set,zT,zZ,zU]
 refine TillZ.take4 (i:=4) (v:=.pointer (some ⟨w.heap.size,0,none⟩)) rfl rfl rfl (by kernel_rfl) hS0 (fun u hu => by go_simp) ?_
 simp only [pS,List.set,zT,zZ,zU]
 refine TillZ.take4 (i:=5) (v:=.string q7) rfl rfl rfl (by kernel_rfl) hS0 (fun u hu => by have z:=(HDX.out u hu).cell 0 _ rfl;go_simp) ?_
 simp only [pS,List.set,zT,zZ,zU]
 refine TillZ.take4 (i:=6) (v:=.tuple #[.agg #[.string (lookI b.is q7).nm,.int .i64 (lookI b.is q7).tm,.string (lookI b.is q7).bd],.bool false]) rfl rfl rfl (by kernel_rfl) hS0 (fun u hu => by have z:=look_any (HDR.out u hu).rise (HDR.out u hu).map hq;rw [HHAS.out] at z;go_simp) ?_
 simp only [pS,List.set,zT,zZ,zU]
 refine TillZ.take4 (i:=7) (v:=.tuple #[.agg #[.string (lookI b.is q7).nm,.int .i64 (lookI b.is q7).tm,.string (lookI b.is q7).bd],.bool false]) rfl rfl rfl (by kernel_rfl) hS0 (fun u hu => by go_simp) ?_
 simp only [pS,List.set,zT,zZ,zU]
 refine TillZ.take4 (i:=8) (v:=.agg #[.string (lookI b.is q7).nm,.int .i64 (lookI b.is q7).tm,.string (lookI b.is q7).bd]) rfl rfl rfl (by kernel_rfl) hS0 (fun u hu => by go_simp) ?_
 simp only [pS,List.set,zT,zZ,zU]
 refine TillZ.take4 (i:=9) (v:=.bool false) rfl rfl rfl (by kernel_rfl) hS0 (fun u hu => by go_simp) ?_
 simp only [pS,List.set,zT,zZ,zU]
 refine TillZ.one (i:=10) (by kernel_rfl) ?_
 refine TillZ.opz (i:=10) (v:=.pointer (some ⟨V.heap.size,0,none⟩)) (w':=V.drew.drew.alloc (.cells #[.string ⟨#[]⟩,.int .i64 0,.string ⟨#[]⟩] 32)) rfl rfl rfl (by go_simp) (hS0.alloc (Nat.le_refl _) _) ?_
 simp only [pS,List.set,zT,zZ,zU]
 refine TillZ.one (i:=11) (by kernel_rfl) ?_
 refine TillZ.opz_skip (i:=11) (w':=V.drew.drew.alloc (.cells #[.string (lookI b.is q7).nm,.int .i64 (lookI b.is q7).tm,.string (lookI b.is q7).bd] 32)) rfl rfl rfl (by go_simp) (hS0.alloc (Nat.le_refl _) _) ?_
 simp only [pN,zT,zZ,zU]
 have S3:=hS0.alloc (Nat.le_refl _) (.cells #[.string (lookI b.is q7).nm,.int .i64 (lookI b.is q7).tm,.string (lookI b.is q7).bd] 32)
 generalize V.drew.drew.alloc (.cells #[.string (lookI b.is q7).nm,.int .i64 (lookI b.is q7).tm,.string (lookI b.is q7).bd] 32) = W3 at *
 refine TillZ.hand (v:=.bool false) (by kernel_rfl) rfl rfl (by go_simp) ?_
 simp only [pS,List.set,zT,zZ,zU]
 refine TillZ.any_done (by kernel_rfl) ?_ _
 have HB2:=qH (HDR.out _ S3)
 have HX2:=qH (HDX.out _ S3)
 have HBB2:=qH (HBU.out _ S3)
 have x5:=HB2.out.box.cell 5 _ rfl
 have x4:=HB2.out.box.cell 4 _ rfl
 have d0:=HX2.out.cell 0 _ rfl
 have d1:=HX2.out.cell 1 _ rfl
 have d2:=HX2.out.cell 2 _ rfl
 clear S3 hS0
 have hlen:=fun ty => World.ownsMap.len HB2.out.map Tryz.underlying134 ty
 rw [size_mapI] at hlen
 have h8' : (8 : Int) <= (b.is.length : Int):=by omega
 go_wp2_with fail
 go_ret
 exact ⟨rfl,HBB2.out⟩
theorem putDo_old (q7 : ByteArray) (q8 : Int) (q9 : ByteArray) {w : World} {base B M : Nat} {v : Value} {b : Bk} (h : Dr w base B M v b) (hbs : base <= w.heap.size) (hq : q7.size <= maxLen) (ht : b.ts.length <= 5) (hi : b.is.length <= 8) (hn : ¬ (b.ts.length : Int) < q8) (hh : hasI b.is q7 = true)  :
 Calls Tryz.prog 167 #[.agg #[.string q7,.int .i64 q8,.string q9],.pointer (some ⟨B,0,none⟩)] w fun e w' => e = .returned (.int .i64 0) /\ Dr w' base B M v ⟨b.c0,b.c1,b.c2,b.c3,b.ts,genI [⟨q7,q8,q9⟩] q7 b.is⟩ /\ Below base w w':=by
 have HX : Hid (BoxC (w.alloc (.cells #[.string q7,.int .i64 q8,.string q9] 98)) w.heap.size [.string q7,.int .i64 q8,.string q9]):=qH (BoxC.made _ _ _)
 have HLT : Hid (∀ q,v.ownBlock = some q -> q < w.heap.size):=qH (fun q hq => (h.row.lt q hq).2)
 have HB1 : Hid (Dr (w.alloc (.cells #[.string q7,.int .i64 q8,.string q9] 98)) base B M v b):=qH (h.below ((Below.refl _ _).alloc (Nat.le_refl _) _))
 have HBB : Hid (Below base w (w.alloc (.cells #[.string q7,.int .i64 q8,.string q9] 98))):=qH ((Below.refl _ _).alloc hbs _)
 have HBS:=qH hbs
 clear h
 obtain ⟨va,vc,rfl⟩:=own_shape HB1.out.row
 obtain ⟨V,hV⟩ : ∃ V,V = w.alloc (.cells #[.string q7,.int .i64 q8,.string q9] 98):=⟨_,rfl⟩
 rw [<- hV] at HX HB1 HBB
 have HBV:=qH (show base <= V.heap.size from Nat.le_trans HBS.out HBB.out.size)
 have x5:=HB1.out.box.cell 5 _ rfl
 have x4:=HB1.out.box.cell 4 _ rfl
 have d0:=HX.out.cell 0 _ rfl
 have d1:=HX.out.cell 1 _ rfl
 have d2:=HX.out.cell 2 _ rfl
 have hw : IntKind.i64.wrap (b.ts.length : Int) = (b.ts.length : Int):=IntWalk.i64_in _ (by omega)
 go_enter Tryz.func167,Tryz.ntmps167
 go_upto_region 1 with fail
 rw [<- hV]
 clear hV
 have HHAS:=qH hh
 clear hh
 go_region
 go_upto_region 3 with fail
 clear x4 x5 d0 d1 d2
 have hmx : Tryz.prog.follows .mixedOrders = true:=by kernel_rfl
 have HDR : Hid (∀ u,Below V.drew.drew.heap.size V.drew.drew u -> Dr u base B M (.slice va b.ts.length vc) b):=qH (fun u hu => (HB1.out.below (Below.refl _ _).drew.drew).below hu)
 have HDX : Hid (∀ u,Below V.drew.drew.heap.size V.drew.drew u -> BoxC u w.heap.size [.string q7,.int .i64 q8,.string q9]):=qH (fun u hu => (HX.out.below (Below.refl _ _).drew.drew).below hu)
 have HBU : Hid (∀ u,Below V.drew.drew.heap.size V.drew.drew u -> Below base w u):=qH (fun u hu => HBB.out.drew.drew.trans (hu.mono HBV.out))
 refine TillZ.region (t:=12) hmx (fun u => Below V.drew.drew.heap.size V.drew.drew u) ?_
 have hS0 : Below V.drew.drew.heap.size V.drew.drew V.drew.drew:=Below.refl _ _
 refine TillZ.take4 (i:=0) (v:=.pointer (some ⟨B,0,none⟩)) rfl rfl rfl (by kernel_rfl) hS0 (fun u hu => by go_simp) ?_
 simp only [pS,List.set,zT,zZ]
 refine TillZ.take4 (i:=1) (v:=.pointer (some ⟨B,0,none⟩)) rfl rfl rfl (by kernel_rfl) hS0 (fun u hu => by go_simp) ?_
 simp only [pS,List.set,zT,zZ,zU]
 refine TillZ.take4 (i:=2) (v:=.pointer (some ⟨B,5,none⟩)) rfl rfl rfl (by kernel_rfl) hS0 (fun u hu => by go_simp) ?_
 simp only [pS,List.set,zT,zZ,zU]
 refine TillZ.take4 (i:=3) (v:=.map (some M)) rfl rfl rfl (by kernel_rfl) hS0 (fun u hu => by have z:=(HDR.out u hu).box.cell 5 _ rfl;go_simp) ?_
 simp only [pS,List.set,zT,zZ,zU]
 refine TillZ.take4 (i:=4) (v:=.pointer (some ⟨w.heap.size,0,none⟩)) rfl rfl rfl (by kernel_rfl) hS0 (fun u hu => by go_simp) ?_
 simp only [pS,List.set,zT,zZ,zU]
 refine TillZ.take4 (i:=5) (v:=.string q7) rfl rfl rfl (by kernel_rfl) hS0 (fun u hu => by have z:=(HDX.out u hu).cell 0 _ rfl;go_simp) ?_
 simp only [pS,List.set,zT,zZ,zU]
 refine TillZ.take4 (i:=6) (v:=.tuple #[.agg #[.string (lookI b.is q7).nm,.int .i64 (lookI b.is q7).tm,.string (lookI b.is q7).bd],.bool true]) rfl rfl rfl (by kernel_rfl) hS0 (fun u hu => by have z:=look_any (HDR.out u hu).rise (HDR.out u hu).map hq;rw [HHAS.out] at z;go_simp) ?_
 simp only [pS,List.set,zT,zZ,zU]
 refine TillZ.take4 (i:=7) (v:=.tuple #[.agg #[.string (lookI b.is q7).nm,.int .i64 (lookI b.is q7).tm,.string (lookI b.is q7).bd],.bool true]) rfl rfl rfl (by kernel_rfl) hS0 (fun u hu => by go_simp) ?_
 simp only [pS,List.set,zT,zZ,zU]
 refine TillZ.take4 (i:=8) (v:=.agg #[.string (lookI b.is q7).nm,.int .i64 (lookI b.is q7).tm,.string (lookI b.is q7).bd]) rfl rfl rfl (by kernel_rfl) hS0 (fun u hu => by go_simp) ?_
 simp only [pS,List.set,zT,zZ,zU]
 refine TillZ.take4 (i:=9) (v:=.bool true) rfl rfl rfl (by kernel_rfl) hS0 (fun u hu => by go_simp) ?_
 simp only [pS,List.set,zT,zZ,zU]
 refine TillZ.one (i:=10) (by kernel_rfl) ?_
 refine TillZ.opz (i:=10) (v:=.pointer (some ⟨V.heap.size,0,none⟩)) (w':=V.drew.drew.alloc (.cells #[.string ⟨#[]⟩,.int .i64 0,.string ⟨#[]⟩] 32)) rfl rfl rfl (by go_simp) (hS0.alloc (Nat.le_refl _) _) ?_
 simp only [pS,List.set,zT,zZ,zU]
 refine TillZ.one (i:=11) (by kernel_rfl) ?_
 refine TillZ.opz_skip (i:=11) (w':=V.drew.drew.alloc (.cells #[.string (lookI b.is q7).nm,.int .i64 (lookI b.is q7).tm,.string (lookI b.is q7).bd] 32)) rfl rfl rfl (by go_simp) (hS0.alloc (Nat.le_refl _) _) ?_
 simp only [pN,zT,zZ,zU]
 have S3:=hS0.alloc (Nat.le_refl _) (.cells #[.string (lookI b.is q7).nm,.int .i64 (lookI b.is q7).tm,.string (lookI b.is q7).bd] 32)
 generalize V.drew.drew.alloc (.cells #[.string (lookI b.is q7).nm,.int .i64 (lookI b.is q7).tm,.string (lookI b.is q7).bd] 32) = W3 at *
 refine TillZ.hand (v:=.bool true) (by kernel_rfl) rfl rfl (by go_simp) ?_
 simp only [pS,List.set,zT,zZ,zU]
 refine TillZ.any_done (by kernel_rfl) ?_ _
 have HB2:=qH (HDR.out _ S3)
 have HX2:=qH (HDX.out _ S3)
 have HBB2:=qH (HBU.out _ S3)
 have x5:=HB2.out.box.cell 5 _ rfl
 have x4:=HB2.out.box.cell 4 _ rfl
 have d0:=HX2.out.cell 0 _ rfl
 have d1:=HX2.out.cell 1 _ rfl
 have d2:=HX2.out.cell 2 _ rfl
 clear S3 hS0
 go_wp2_with fail
 have HBV3:=qH (Nat.le_trans HBS.out HBB2.out.size)
 clear x4 x5 d0 d1 d2
 refine TillZ.region (t:=7) hmx (fun u => Below W3.heap.size W3 u) ?_
 have hS0 : Below W3.heap.size W3 W3.drew:=(Below.refl _ _).drew
 have HD3 : Hid (∀ u,Below W3.heap.size W3 u -> Dr u base B M (.slice va b.ts.length vc) b):=qH (fun u hu => HB2.out.below hu)
 have HX3 : Hid (∀ u,Below W3.heap.size W3 u -> BoxC u w.heap.size [.string q7,.int .i64 q8,.string q9]):=qH (fun u hu => HX2.out.below hu)
 refine TillZ.take4 (i:=0) (v:=.pointer (some ⟨B,0,none⟩)) rfl rfl rfl (by kernel_rfl) hS0 (fun u hu => by go_simp) ?_
 simp only [pS,List.set,zT,zZ]
 refine TillZ.take4 (i:=1) (v:=.pointer (some ⟨B,0,none⟩)) rfl rfl rfl (by kernel_rfl) hS0 (fun u hu => by go_simp) ?_
 simp only [pS,List.set,zT,zZ,zU]
 refine TillZ.take4 (i:=2) (v:=.pointer (some ⟨B,5,none⟩)) rfl rfl rfl (by kernel_rfl) hS0 (fun u hu => by go_simp) ?_
 simp only [pS,List.set,zT,zZ,zU]
 refine TillZ.take4 (i:=3) (v:=.map (some M)) rfl rfl rfl (by kernel_rfl) hS0 (fun u hu => by have z:=(HD3.out u hu).box.cell 5 _ rfl;go_simp) ?_
 simp only [pS,List.set,zT,zZ,zU]
 refine TillZ.take4 (i:=4) (v:=.pointer (some ⟨w.heap.size,0,none⟩)) rfl rfl rfl (by kernel_rfl) hS0 (fun u hu => by go_simp) ?_
 simp only [pS,List.set,zT,zZ,zU]
 refine TillZ.take4 (i:=5) (v:=.string q7) rfl rfl rfl (by kernel_rfl) hS0 (fun u hu => by have z:=(HX3.out u hu).cell 0 _ rfl;go_simp) ?_
 simp only [pS,List.set,zT,zZ,zU]
 refine TillZ.take4 (i:=6) (v:=.agg #[.string q7,.int .i64 q8,.string q9]) rfl rfl rfl (by kernel_rfl) hS0 (fun u hu => by have z0:=(HX3.out u hu).cell 0 _ rfl;have z1:=(HX3.out u hu).cell 1 _ rfl;have z2:=(HX3.out u hu).cell 2 _ rfl;go_simp) ?_
 simp only [pS,List.set,zT,zZ,zU]
 obtain ⟨w4,hrun,hown,hgr⟩:=World.ownsMap.update (HD3.out _ hS0).map keyS Tryz.underlying134 (by unfold maxLen;omega) (imKey_of hq) (show imR (.agg #[.string q7,.int .i64 q8,.string q9]) = some (imDat ⟨q7,q8,q9⟩,[]) from rfl)
 have HO:=qH hown
 have HT:=qH hgr
 have HDD:=qH (HD3.out _ hS0)
 have HBD:=qH (HBB2.out.drew)
 clear hown hgr
 refine TillZ.hand_skip (w':=w4) (by kernel_rfl) rfl rfl (by go_simp) ?_
 simp only [pN,zT,zZ,zU]
 refine TillZ.any_done (by kernel_rfl) ?_ _
 go_wp2_with fail
 go_ret
 exact ⟨rfl,HDD.out.mapped HT.out (by rw [mapI_put (x:=⟨q7,q8,q9⟩) HB2.out.rise];exact HO.out) (gen_rise (.inr ⟨_,rfl,rfl⟩) HB2.out.rise),HBD.out.grown HT.out HBV3.out (fun q hq => by have:=HB2.out.hM;simp at hq;omega)⟩
theorem putDo_new (q7 : ByteArray) (q8 : Int) (q9 : ByteArray) {w : World} {base B M : Nat} {v : Value} {b : Bk} (h : Dr w base B M v b) (hbs : base <= w.heap.size) (hq : q7.size <= maxLen) (ht : b.ts.length <= 5) (hi : b.is.length <= 8) (hn : ¬ (b.ts.length : Int) < q8) (hh : hasI b.is q7 = false) (h8 : ¬ 8 <= b.is.length) :
 Calls Tryz.prog 167 #[.agg #[.string q7,.int .i64 q8,.string q9],.pointer (some ⟨B,0,none⟩)] w fun e w' => e = .returned (.int .i64 0) /\ Dr w' base B M v ⟨b.c0,b.c1,b.c2,b.c3,b.ts,genI [⟨q7,q8,q9⟩] q7 b.is⟩ /\ Below base w w':=by
 have HX : Hid (BoxC (w.alloc (.cells #[.string q7,.int .i64 q8,.string q9] 98)) w.heap.size [.string q7,.int .i64 q8,.string q9]):=qH (BoxC.made _ _ _)
 have HLT : Hid (∀ q,v.ownBlock = some q -> q < w.heap.size):=qH (fun q hq => (h.row.lt q hq).2)
 have HB1 : Hid (Dr (w.alloc (.cells #[.string q7,.int .i64 q8,.string q9] 98)) base B M v b):=qH (h.below ((Below.refl _ _).alloc (Nat.le_refl _) _))
 have HBB : Hid (Below base w (w.alloc (.cells #[.string q7,.int .i64 q8,.string q9] 98))):=qH ((Below.refl _ _).alloc hbs _)
 have HBS:=qH hbs
 clear h
 obtain ⟨va,vc,rfl⟩:=own_shape HB1.out.row
 obtain ⟨V,hV⟩ : ∃ V,V = w.alloc (.cells #[.string q7,.int .i64 q8,.string q9] 98):=⟨_,rfl⟩
 rw [<- hV] at HX HB1 HBB
 have HBV:=qH (show base <= V.heap.size from Nat.le_trans HBS.out HBB.out.size)
 have x5:=HB1.out.box.cell 5 _ rfl
 have x4:=HB1.out.box.cell 4 _ rfl
 have d0:=HX.out.cell 0 _ rfl
 have d1:=HX.out.cell 1 _ rfl
 have d2:=HX.out.cell 2 _ rfl
 have hw : IntKind.i64.wrap (b.ts.length : Int) = (b.ts.length : Int):=IntWalk.i64_in _ (by omega)
 go_enter Tryz.func167,Tryz.ntmps167
 go_upto_region 1 with fail
 rw [<- hV]
 clear hV
 have HHAS:=qH hh
 clear hh
 go_region
 go_upto_region 3 with fail
 clear x4 x5 d0 d1 d2
 have hmx : Tryz.prog.follows .mixedOrders = true:=by kernel_rfl
 have HDR : Hid (∀ u,Below V.drew.drew.heap.size V.drew.drew u -> Dr u base B M (.slice va b.ts.length vc) b):=qH (fun u hu => (HB1.out.below (Below.refl _ _).drew.drew).below hu)
 have HDX : Hid (∀ u,Below V.drew.drew.heap.size V.drew.drew u -> BoxC u w.heap.size [.string q7,.int .i64 q8,.string q9]):=qH (fun u hu => (HX.out.below (Below.refl _ _).drew.drew).below hu)
 have HBU : Hid (∀ u,Below V.drew.drew.heap.size V.drew.drew u -> Below base w u):=qH (fun u hu => HBB.out.drew.drew.trans (hu.mono HBV.out))
 refine TillZ.region (t:=12) hmx (fun u => Below V.drew.drew.heap.size V.drew.drew u) ?_
 have hS0 : Below V.drew.drew.heap.size V.drew.drew V.drew.drew:=Below.refl _ _
 refine TillZ.take4 (i:=0) (v:=.pointer (some ⟨B,0,none⟩)) rfl rfl rfl (by kernel_rfl) hS0 (fun u hu => by go_simp) ?_
 simp only [pS,List.set,zT,zZ]
 refine TillZ.take4 (i:=1) (v:=.pointer (some ⟨B,0,none⟩)) rfl rfl rfl (by kernel_rfl) hS0 (fun u hu => by go_simp) ?_
 simp only [pS,List.set,zT,zZ,zU]
 refine TillZ.take4 (i:=2) (v:=.pointer (some ⟨B,5,none⟩)) rfl rfl rfl (by kernel_rfl) hS0 (fun u hu => by go_simp) ?_
 simp only [pS,List.set,zT,zZ,zU]
 refine TillZ.take4 (i:=3) (v:=.map (some M)) rfl rfl rfl (by kernel_rfl) hS0 (fun u hu => by have z:=(HDR.out u hu).box.cell 5 _ rfl;go_simp) ?_
 simp only [pS,List.set,zT,zZ,zU]
 refine TillZ.take4 (i:=4) (v:=.pointer (some ⟨w.heap.size,0,none⟩)) rfl rfl rfl (by kernel_rfl) hS0 (fun u hu => by go_simp) ?_
 simp only [pS,List.set,zT,zZ,zU]
 refine TillZ.take4 (i:=5) (v:=.string q7) rfl rfl rfl (by kernel_rfl) hS0 (fun u hu => by have z:=(HDX.out u hu).cell 0 _ rfl;go_simp) ?_
 simp only [pS,List.set,zT,zZ,zU]
 refine TillZ.take4 (i:=6) (v:=.tuple #[.agg #[.string (lookI b.is q7).nm,.int .i64 (lookI b.is q7).tm,.string (lookI b.is q7).bd],.bool false]) rfl rfl rfl (by kernel_rfl) hS0 (fun u hu => by have z:=look_any (HDR.out u hu).rise (HDR.out u hu).map hq;rw [HHAS.out] at z;go_simp) ?_
 simp only [pS,List.set,zT,zZ,zU]
 refine TillZ.take4 (i:=7) (v:=.tuple #[.agg #[.string (lookI b.is q7).nm,.int .i64 (lookI b.is q7).tm,.string (lookI b.is q7).bd],.bool false]) rfl rfl rfl (by kernel_rfl) hS0 (fun u hu => by go_simp) ?_
 simp only [pS,List.set,zT,zZ,zU]
 refine TillZ.take4 (i:=8) (v:=.agg #[.string (lookI b.is q7).nm,.int .i64 (lookI b.is q7).tm,.string (lookI b.is q7).bd]) rfl rfl rfl (by kernel_rfl) hS0 (fun u hu => by go_simp) ?_
 simp only [pS,List.set,zT,zZ,zU]
 refine TillZ.take4 (i:=9) (v:=.bool false) rfl rfl rfl (by kernel_rfl) hS0 (fun u hu => by go_simp) ?_
 simp only [pS,List.set,zT,zZ,zU]
 refine TillZ.one (i:=10) (by kernel_rfl) ?_
 refine TillZ.opz (i:=10) (v:=.pointer (some ⟨V.heap.size,0,none⟩)) (w':=V.drew.drew.alloc (.cells #[.string ⟨#[]⟩,.int .i64 0,.string ⟨#[]⟩] 32)) rfl rfl rfl (by go_simp) (hS0.alloc (Nat.le_refl _) _) ?_
 simp only [pS,List.set,zT,zZ,zU]
 refine TillZ.one (i:=11) (by kernel_rfl) ?_
 refine TillZ.opz_skip (i:=11) (w':=V.drew.drew.alloc (.cells #[.string (lookI b.is q7).nm,.int .i64 (lookI b.is q7).tm,.string (lookI b.is q7).bd] 32)) rfl rfl rfl (by go_simp) (hS0.alloc (Nat.le_refl _) _) ?_
 simp only [pN,zT,zZ,zU]
 have S3:=hS0.alloc (Nat.le_refl _) (.cells #[.string (lookI b.is q7).nm,.int .i64 (lookI b.is q7).tm,.string (lookI b.is q7).bd] 32)
 generalize V.drew.drew.alloc (.cells #[.string (lookI b.is q7).nm,.int .i64 (lookI b.is q7).tm,.string (lookI b.is q7).bd] 32) = W3 at *
 refine TillZ.hand (v:=.bool false) (by kernel_rfl) rfl rfl (by go_simp) ?_
 simp only [pS,List.set,zT,zZ,zU]
 refine TillZ.any_done (by kernel_rfl) ?_ _
 have HB2:=qH (HDR.out _ S3)
 have HX2:=qH (HDX.out _ S3)
 have HBB2:=qH (HBU.out _ S3)
 have x5:=HB2.out.box.cell 5 _ rfl
 have x4:=HB2.out.box.cell 4 _ rfl
 have d0:=HX2.out.cell 0 _ rfl
 have d1:=HX2.out.cell 1 _ rfl
 have d2:=HX2.out.cell 2 _ rfl
 clear S3 hS0
 have hlen:=fun ty => World.ownsMap.len HB2.out.map Tryz.underlying134 ty
 rw [size_mapI] at hlen
 have h8' : ¬ (8 : Int) <= (b.is.length : Int):=by omega
 go_wp2_with fail
 have HBV3:=qH (Nat.le_trans HBS.out HBB2.out.size)
 clear x4 x5 d0 d1 d2
 refine TillZ.region (t:=7) hmx (fun u => Below W3.heap.size W3 u) ?_
 have hS0 : Below W3.heap.size W3 W3.drew:=(Below.refl _ _).drew
 have HD3 : Hid (∀ u,Below W3.heap.size W3 u -> Dr u base B M (.slice va b.ts.length vc) b):=qH (fun u hu => HB2.out.below hu)
 have HX3 : Hid (∀ u,Below W3.heap.size W3 u -> BoxC u w.heap.size [.string q7,.int .i64 q8,.string q9]):=qH (fun u hu => HX2.out.below hu)
 refine TillZ.take4 (i:=0) (v:=.pointer (some ⟨B,0,none⟩)) rfl rfl rfl (by kernel_rfl) hS0 (fun u hu => by go_simp) ?_
 simp only [pS,List.set,zT,zZ]
 refine TillZ.take4 (i:=1) (v:=.pointer (some ⟨B,0,none⟩)) rfl rfl rfl (by kernel_rfl) hS0 (fun u hu => by go_simp) ?_
 simp only [pS,List.set,zT,zZ,zU]
 refine TillZ.take4 (i:=2) (v:=.pointer (some ⟨B,5,none⟩)) rfl rfl rfl (by kernel_rfl) hS0 (fun u hu => by go_simp) ?_
 simp only [pS,List.set,zT,zZ,zU]
 refine TillZ.take4 (i:=3) (v:=.map (some M)) rfl rfl rfl (by kernel_rfl) hS0 (fun u hu => by have z:=(HD3.out u hu).box.cell 5 _ rfl;go_simp) ?_
 simp only [pS,List.set,zT,zZ,zU]
 refine TillZ.take4 (i:=4) (v:=.pointer (some ⟨w.heap.size,0,none⟩)) rfl rfl rfl (by kernel_rfl) hS0 (fun u hu => by go_simp) ?_
 simp only [pS,List.set,zT,zZ,zU]
 refine TillZ.take4 (i:=5) (v:=.string q7) rfl rfl rfl (by kernel_rfl) hS0 (fun u hu => by have z:=(HX3.out u hu).cell 0 _ rfl;go_simp) ?_
 simp only [pS,List.set,zT,zZ,zU]
 refine TillZ.take4 (i:=6) (v:=.agg #[.string q7,.int .i64 q8,.string q9]) rfl rfl rfl (by kernel_rfl) hS0 (fun u hu => by have z0:=(HX3.out u hu).cell 0 _ rfl;have z1:=(HX3.out u hu).cell 1 _ rfl;have z2:=(HX3.out u hu).cell 2 _ rfl;go_simp) ?_
 simp only [pS,List.set,zT,zZ,zU]
 obtain ⟨w4,hrun,hown,hgr⟩:=World.ownsMap.update (HD3.out _ hS0).map keyS Tryz.underlying134 (by unfold maxLen;omega) (imKey_of hq) (show imR (.agg #[.string q7,.int .i64 q8,.string q9]) = some (imDat ⟨q7,q8,q9⟩,[]) from rfl)
 have HO:=qH hown
 have HT:=qH hgr
 have HDD:=qH (HD3.out _ hS0)
 have HBD:=qH (HBB2.out.drew)
 clear hown hgr
 refine TillZ.hand_skip (w':=w4) (by kernel_rfl) rfl rfl (by go_simp) ?_
 simp only [pN,zT,zZ,zU]
 refine TillZ.any_done (by kernel_rfl) ?_ _
 go_wp2_with fail
 go_ret
 exact ⟨rfl,HDD.out.mapped HT.out (by rw [mapI_put (x:=⟨q7,q8,q9⟩) HB2.out.rise];exact HO.out) (gen_rise (.inr ⟨_,rfl,rfl⟩) HB2.out.rise),HBD.out.grown HT.out HBV3.out (fun q hq => by have:=HB2.out.hM;simp at hq;omega)⟩
theorem far_of {w : World} {base B M n nn : Nat} {v : Value} {ts : List Tm} {x : Int} {D : DataW Unit} (hr : w.ownsRow base 30 tmE.k v n (tmE.flat ts)) (h0 : 0 < n) (hb : w.cell? ⟨B,1,none⟩ = some (.int .i64 x)) (hm : w.ownsMap Tryz.prog 9 imR M nn D) : ∀ q,v.ownBlock = some q -> q ≠ B /\ q ≠ M:=by
 intro q hq
 rcases hr.2 with ⟨rfl,h⟩ | ⟨g,cap,cur,rfl,_,hg,_⟩
 · omega
 · have hgq : g = q:=by simpa [Value.ownBlock] using hq
   subst hgq
   obtain ⟨g',o',hge,_,_,t1⟩:=TmR.at (TmR.own hr) h0
   simp only [Option.some.injEq,Addr.mk.injEq,and_true] at hge
   obtain ⟨rfl,rfl⟩:=hge
   refine ⟨fun e => ?_,fun e => ?_⟩
   · subst e
     simp only [Nat.zero_mul,Nat.zero_add] at t1
     rw [hb] at t1
     cases t1
   · subst e
     obtain ⟨es,clock,h1,_⟩:=hm
     rw [h1] at hg
     cases hg
theorem termDo_none (q5 : Int) (q6 : ByteArray) {w : World} {base B M : Nat} {v : Value} {b : Bk} (h : Dr w base B M v b) (hbs : base <= w.heap.size) (ht : b.ts.length <= 5) (hn : (b.ts.length : Int) + 1 < q5) :
 Calls Tryz.prog 163 #[.agg #[.int .i64 q5,.string q6],.pointer (some ⟨B,0,none⟩)] w fun e w' => e = .returned (.int .i64 6) /\ Below base w w':=by
 have HX : Hid (BoxC (w.alloc (.cells #[.int .i64 q5,.string q6] 97)) w.heap.size [.int .i64 q5,.string q6]):=qH (BoxC.made _ _ _)
 have HLT : Hid (∀ q,v.ownBlock = some q -> q < w.heap.size):=qH (fun q hq => (h.row.lt q hq).2)
 have HB1 : Hid (Dr (w.alloc (.cells #[.int .i64 q5,.string q6] 97)) base B M v b):=qH (h.below ((Below.refl _ _).alloc (Nat.le_refl _) _))
 have HBB : Hid (Below base w (w.alloc (.cells #[.int .i64 q5,.string q6] 97))):=qH ((Below.refl _ _).alloc hbs _)
 have HBS:=qH hbs
 clear h
 obtain ⟨va,vc,rfl⟩:=own_shape HB1.out.row
 obtain ⟨V,hV⟩ : ∃ V,V = w.alloc (.cells #[.int .i64 q5,.string q6] 97):=⟨_,rfl⟩
 rw [<- hV] at HX HB1 HBB
 have HBV:=qH (show base <= V.heap.size from Nat.le_trans HBS.out HBB.out.size)
 have x4:=HB1.out.box.cell 4 _ rfl
 have f4:=HB1.out.box.free 4
 have d0:=HX.out.cell 0 _ rfl
 have d1:=HX.out.cell 1 _ rfl
 have hw : IntKind.i64.wrap (b.ts.length : Int) = (b.ts.length : Int):=IntWalk.i64_in _ (by omega)
 have hw1 : IntKind.i64.wrap ((b.ts.length : Int) + 1) = (b.ts.length : Int) + 1:=IntWalk.i64_in _ (by omega)
 go_enter Tryz.func163,Tryz.ntmps163
 go_upto_region 1 with fail
 rw [<- hV]
 clear hV
 go_wp2_with fail
 go_ret
 exact ⟨rfl,HBB.out⟩
theorem termDo_next (q5 : Int) (q6 : ByteArray) {w : World} {base B M : Nat} {v : Value} {b : Bk} (h : Dr w base B M v b) (hbs : base <= w.heap.size) (ht : b.ts.length <= 5) (hn : q5 = (b.ts.length : Int) + 1) :
 Calls Tryz.prog 163 #[.agg #[.int .i64 q5,.string q6],.pointer (some ⟨B,0,none⟩)] w fun e w' => e = .returned (.int .i64 0) /\ ∃ v',Dr w' base B M v' ⟨b.c0,b.c1,b.c2,b.c3,b.ts ++ [⟨q5,q6⟩],b.is⟩ /\ Below base w w':=by
 have HX : Hid (BoxC (w.alloc (.cells #[.int .i64 q5,.string q6] 97)) w.heap.size [.int .i64 q5,.string q6]):=qH (BoxC.made _ _ _)
 have HLT : Hid (∀ q,v.ownBlock = some q -> q < w.heap.size):=qH (fun q hq => (h.row.lt q hq).2)
 have HB1 : Hid (Dr (w.alloc (.cells #[.int .i64 q5,.string q6] 97)) base B M v b):=qH (h.below ((Below.refl _ _).alloc (Nat.le_refl _) _))
 have HBB : Hid (Below base w (w.alloc (.cells #[.int .i64 q5,.string q6] 97))):=qH ((Below.refl _ _).alloc hbs _)
 have HBS:=qH hbs
 clear h
 have HN:=qH hn
 clear hn
 obtain ⟨va,vc,rfl⟩:=own_shape HB1.out.row
 obtain ⟨V,hV⟩ : ∃ V,V = w.alloc (.cells #[.int .i64 q5,.string q6] 97):=⟨_,rfl⟩
 rw [<- hV] at HX HB1 HBB
 have HBV:=qH (show base <= V.heap.size from Nat.le_trans HBS.out HBB.out.size)
 have x4:=HB1.out.box.cell 4 _ rfl
 have f4:=HB1.out.box.free 4
 have d0:=HX.out.cell 0 _ rfl
 have d1:=HX.out.cell 1 _ rfl
 have hw : IntKind.i64.wrap (b.ts.length : Int) = (b.ts.length : Int):=IntWalk.i64_in _ (by omega)
 have hw1 : IntKind.i64.wrap ((b.ts.length : Int) + 1) = (b.ts.length : Int) + 1:=IntWalk.i64_in _ (by omega)
 go_enter Tryz.func163,Tryz.ntmps163
 go_upto_region 1 with fail
 rw [<- hV]
 clear hV
 have hmx : Tryz.prog.follows .mixedOrders = true:=by kernel_rfl
 have h1 : ¬ (b.ts.length : Int) + 1 < q5:=by have:=HN.out;omega
 have h2 : (q5 == (b.ts.length : Int) + 1) = true:=by rw [HN.out];simp
 go_wp2_with fail
 obtain ⟨i1,hi1,hz1,hs1,hy1⟩:=info_parts infoTerm
 clear x4 f4 d0 d1
 refine TillZ.region (t:=10) hmx (fun u => BoxC u B [.int .i64 b.c0,.int .i64 b.c1,.int .i64 b.c2,.int .i64 b.c3,.slice va b.ts.length vc,.map (some M)] /\ BoxC u w.heap.size [.int .i64 q5,.string q6]) ?_
 have hS0:=And.intro HB1.out.box.drew HX.out.drew
 refine TillZ.take4 (i:=0) (v:=.pointer (some ⟨B,0,none⟩)) rfl rfl rfl (by kernel_rfl) hS0 (fun u hu => by go_simp) ?_
 simp only [pS,List.set,zT,zZ]
 refine TillZ.take4 (i:=1) (v:=.pointer (some ⟨B,0,none⟩)) rfl rfl rfl (by kernel_rfl) hS0 (fun u hu => by go_simp) ?_
 simp only [pS,List.set,zT,zZ,zU]
 refine TillZ.take4 (i:=2) (v:=.pointer (some ⟨B,0,none⟩)) rfl rfl rfl (by kernel_rfl) hS0 (fun u hu => by go_simp) ?_
 simp only [pS,List.set,zT,zZ,zU]
 refine TillZ.take4 (i:=3) (v:=.pointer (some ⟨B,4,none⟩)) rfl rfl rfl (by kernel_rfl) hS0 (fun u hu => by go_simp) ?_
 simp only [pS,List.set,zT,zZ,zU]
 refine TillZ.take4 (i:=4) (v:=.slice va b.ts.length vc) rfl rfl rfl (by kernel_rfl) hS0 (fun u hu => by have z:=hu.1.cell 4 _ rfl;go_simp) ?_
 simp only [pS,List.set,zT,zZ,zU]
 refine TillZ.take4 (i:=5) (v:=.agg #[.int .i64 q5,.string q6]) rfl rfl rfl (by kernel_rfl) hS0 (fun u hu => by have z0:=hu.2.cell 0 _ rfl;have z1:=hu.2.cell 1 _ rfl;go_simp) ?_
 simp only [pS,List.set,zT,zZ,zU]
 refine TillZ.one (i:=6) (by kernel_rfl) ?_
 refine TillZ.opz (i:=6) (v:=.slice (some ⟨V.heap.size,0,none⟩) 1 1) (w':=V.drew.alloc (.cells #[.int .i64 q5,.string q6] 30)) rfl rfl rfl (by go_simp) ⟨hS0.1.alloc _,hS0.2.alloc _⟩ ?_
 simp only [pS,List.set,zT,zZ,zU]
 have hS1:=And.intro (hS0.1.alloc (.cells #[.int .i64 q5,.string q6] 30)) (hS0.2.alloc (.cells #[.int .i64 q5,.string q6] 30))
 have hO:=World.ownsRow.alloc (World.ownsRow.drew HB1.out.row) (.cells #[.int .i64 q5,.string q6] 30)
 have hL : SR tmE tmD (V.drew.alloc (.cells #[.int .i64 q5,.string q6] 30)) (some ⟨V.heap.size,0,none⟩) 1 1 [⟨q5,q6⟩]:=SR.own (by decide) (World.ownsRow_lit V.drew #[.int .i64 q5,.string q6] 1 (Nat.le_refl _) (by decide) rfl)
 have HB9:=qH ((HBB.out.drew).alloc HBV.out (.cells #[.int .i64 q5,.string q6] 30))
 have HB9S:=qH (Nat.le_trans HBS.out HB9.out.size)
 have hM9:=World.ownsMap.alloc (World.ownsMap.drew HB1.out.map) (.cells #[.int .i64 q5,.string q6] 30)
 refine TillZ.one (i:=7) (by kernel_rfl) ?_
 refine append_opz tmE tmD (i:=7) (.tmp 24) (.tmp 26) 25 rfl rfl rfl rfl 30 i1 _ 24 Tryz.underlying25 hi1 hz1 hs1 hy1 rfl (by decide) (by decide) base _ b.ts.length b.ts rfl hO _ 1 1 [⟨q5,q6⟩] rfl hL HB9S.out (by omega) (by omega) (fun v2 u2 O2 G2 => ?_)
 simp only [pS,List.set,zT,zZ,zU]
 have hb2:=hS1.1.grown G2 (fun e => (HB1.out.far B e.symm).1 rfl)
 have hx2:=hS1.2.grown G2 (fun e => Nat.lt_irrefl _ (HLT.out _ e.symm))
 have hm2:=hM9.kept G2 (fun e => (HB1.out.far M e.symm).2 rfl)
 have HB10 : Hid (Below base w u2):=qH (HB9.out.grown G2 HB9S.out (fun q hq => (hO.lt q hq).1))
 have hfar:=far_of O2 (by omega) (hb2.cell 1 _ rfl) hm2
 obtain ⟨a2,c2,rfl⟩:=own_shape O2
 refine ⟨⟨hb2,hx2⟩,?_⟩
 have x4:=hb2.cell 4 _ rfl
 have f4:=hb2.free 4
 have HDN : Hid (Dr (u2.setCell ⟨B,4,none⟩ (.slice a2 (b.ts.length + 1) c2)) base B M (.slice a2 (b.ts.length + 1) c2) ⟨b.c0,b.c1,b.c2,b.c3,b.ts ++ [⟨q5,q6⟩],b.is⟩):=qH
  ⟨hb2.set (j:=4) (by simp) _,by have h3:=own_other O2 (b:=B) (fun q hq => (hfar q hq).1) ⟨B,4,none⟩ (.slice a2 (b.ts.length + 1) c2) rfl;simpa using h3,hfar,HB1.out.hB,HB1.out.hM,HB1.out.ne,hm2.setCell (a:=⟨B,4,none⟩) HB1.out.ne _,HB1.out.rise⟩
 refine TillZ.value (i:=8) (v:=.pointer (some ⟨B,0,none⟩)) (by kernel_rfl) rfl rfl rfl (by go_simp) ⟨hb2,hx2⟩ ?_
 simp only [pS,List.set,zT,zZ,zU]
 refine TillZ.value (i:=9) (v:=.pointer (some ⟨B,4,none⟩)) (by kernel_rfl) rfl rfl rfl (by go_simp) ⟨hb2,hx2⟩ ?_
 simp only [pS,List.set,zT,zZ,zU]
 clear hb2 hx2 hm2 hfar O2 G2 hO hL hM9 hS1 hS0
 refine TillZ.hand_skip (w':=u2.setCell ⟨B,4,none⟩ (.slice a2 (b.ts.length + 1) c2)) (by kernel_rfl) rfl rfl (by go_simp) ?_
 simp only [pN,zT,zZ,zU]
 refine TillZ.any_done (by kernel_rfl) ?_ _
 clear x4 f4
 go_wp2_with fail
 go_ret
 exact ⟨rfl,_,HDN.out,HB10.out.setCell (p:=⟨B,4,none⟩) HB1.out.hB _⟩
theorem termDo_old (q5 : Int) (q6 : ByteArray) {w : World} {base B M : Nat} {v : Value} {b : Bk} (h : Dr w base B M v b) (hbs : base <= w.heap.size) (ht : b.ts.length <= 5) (i : Nat) (hi : (i : Int) = q5 - 1) (hil : i < b.ts.length) :
 Calls Tryz.prog 163 #[.agg #[.int .i64 q5,.string q6],.pointer (some ⟨B,0,none⟩)] w fun e w' => e = .returned (.int .i64 0) /\ Dr w' base B M v ⟨b.c0,b.c1,b.c2,b.c3,b.ts.set i ⟨q5,q6⟩,b.is⟩ /\ Below base w w':=by
 have HX : Hid (BoxC (w.alloc (.cells #[.int .i64 q5,.string q6] 97)) w.heap.size [.int .i64 q5,.string q6]):=qH (BoxC.made _ _ _)
 have HLT : Hid (∀ q,v.ownBlock = some q -> q < w.heap.size):=qH (fun q hq => (h.row.lt q hq).2)
 have HB1 : Hid (Dr (w.alloc (.cells #[.int .i64 q5,.string q6] 97)) base B M v b):=qH (h.below ((Below.refl _ _).alloc (Nat.le_refl _) _))
 have HBB : Hid (Below base w (w.alloc (.cells #[.int .i64 q5,.string q6] 97))):=qH ((Below.refl _ _).alloc hbs _)
 have HBS:=qH hbs
 clear h
 obtain ⟨va,vc,rfl⟩:=own_shape HB1.out.row
 obtain ⟨V,hV⟩ : ∃ V,V = w.alloc (.cells #[.int .i64 q5,.string q6] 97):=⟨_,rfl⟩
 rw [<- hV] at HX HB1 HBB
 have HBV:=qH (show base <= V.heap.size from Nat.le_trans HBS.out HBB.out.size)
 have x4:=HB1.out.box.cell 4 _ rfl
 have f4:=HB1.out.box.free 4
 have d0:=HX.out.cell 0 _ rfl
 have d1:=HX.out.cell 1 _ rfl
 have hw : IntKind.i64.wrap (b.ts.length : Int) = (b.ts.length : Int):=IntWalk.i64_in _ (by omega)
 have hw1 : IntKind.i64.wrap ((b.ts.length : Int) + 1) = (b.ts.length : Int) + 1:=IntWalk.i64_in _ (by omega)
 go_enter Tryz.func163,Tryz.ntmps163
 go_upto_region 1 with fail
 rw [<- hV]
 clear hV
 have hmx : Tryz.prog.follows .mixedOrders = true:=by kernel_rfl
 have h2 : (q5 == (b.ts.length : Int) + 1) = false:=by rw [beq_eq_false_iff_ne];omega
 have h3 : ¬ (b.ts.length : Int) + 1 < q5:=by omega
 have hin : 0 <= (i : Int) /\ (i : Int) < (b.ts.length : Int):=by omega
 have hsub : IntKind.i64.wrap (q5 - 1) = (i : Int):=by rw [IntWalk.i64_in _ (by omega)];omega
 obtain ⟨g,rfl⟩ : ∃ g,va = some ⟨g,0,none⟩:=by
  rcases HB1.out.row.2 with ⟨_,h0⟩ | ⟨g,cap,cur,hv,_⟩
  · omega
  · simp only [Value.slice.injEq] at hv;exact ⟨g,hv.1⟩
 clear hi
 go_wp2_with fail
 clear x4 f4 d0 d1
 have hrow:=World.ownsRow.drew HB1.out.row
 obtain ⟨g',o',hge,_,t0,t1⟩:=TmR.at (TmR.own HB1.out.row) hil
 simp only [Option.some.injEq,Addr.mk.injEq,and_true] at hge
 obtain ⟨rfl,rfl⟩:=hge
 rw [Nat.zero_add] at t0 t1
 have k0:=HB1.out.row.frozenAt (i * 2)
 have k1:=HB1.out.row.frozenAt (i * 2 + 1)
 have hst:=TmR.stored hrow hil q5 q6
 have HST:=qH hst.1
 have HGG:=qH hst.2
 have HFG:=qH (HB1.out.far g rfl)
 have HBG:=qH ((HB1.out.row.lt g rfl).1)
 clear hst hrow
 refine TillZ.region (t:=9) hmx (fun u => BoxC u B [.int .i64 b.c0,.int .i64 b.c1,.int .i64 b.c2,.int .i64 b.c3,.slice (some ⟨g,0,none⟩) b.ts.length vc,.map (some M)] /\ BoxC u w.heap.size [.int .i64 q5,.string q6]) ?_
 have hS0:=And.intro HB1.out.box.drew HX.out.drew
 refine TillZ.take4 (i:=0) (v:=.pointer (some ⟨B,0,none⟩)) rfl rfl rfl (by kernel_rfl) hS0 (fun u hu => by go_simp) ?_
 simp only [pS,List.set,zT,zZ]
 refine TillZ.take4 (i:=1) (v:=.pointer (some ⟨B,0,none⟩)) rfl rfl rfl (by kernel_rfl) hS0 (fun u hu => by go_simp) ?_
 simp only [pS,List.set,zT,zZ,zU]
 refine TillZ.take4 (i:=2) (v:=.pointer (some ⟨B,4,none⟩)) rfl rfl rfl (by kernel_rfl) hS0 (fun u hu => by go_simp) ?_
 simp only [pS,List.set,zT,zZ,zU]
 refine TillZ.take4 (i:=3) (v:=.slice (some ⟨g,0,none⟩) b.ts.length vc) rfl rfl rfl (by kernel_rfl) hS0 (fun u hu => by have z:=hu.1.cell 4 _ rfl;go_simp) ?_
 simp only [pS,List.set,zT,zZ,zU]
 refine TillZ.take4 (i:=4) (v:=.pointer (some ⟨w.heap.size,0,none⟩)) rfl rfl rfl (by kernel_rfl) hS0 (fun u hu => by go_simp) ?_
 simp only [pS,List.set,zT,zZ,zU]
 refine TillZ.take4 (i:=5) (v:=.int .i64 q5) rfl rfl rfl (by kernel_rfl) hS0 (fun u hu => by have z0:=hu.2.cell 0 _ rfl;go_simp) ?_
 simp only [pS,List.set,zT,zZ,zU]
 refine TillZ.take4 (i:=6) (v:=.int .i64 (i : Int)) rfl rfl rfl (by kernel_rfl) hS0 (fun u hu => by go_simp) ?_
 simp only [pS,List.set,zT,zZ,zU]
 refine TillZ.take4 (i:=7) (v:=.agg #[.int .i64 q5,.string q6]) rfl rfl rfl (by kernel_rfl) hS0 (fun u hu => by have z0:=hu.2.cell 0 _ rfl;have z1:=hu.2.cell 1 _ rfl;go_simp) ?_
 simp only [pS,List.set,zT,zZ,zU]
 refine TillZ.take4 (i:=8) (v:=.pointer (some ⟨g,i * 2,none⟩)) rfl rfl rfl (by kernel_rfl) hS0 (fun u hu => by go_simp) ?_
 simp only [pS,List.set,zT,zZ,zU]
 refine TillZ.hand_skip (w':=(V.drew.setCell ⟨g,i * 2,none⟩ (.int .i64 q5)).setCell ⟨g,i * 2 + 1,none⟩ (.string q6)) (by kernel_rfl) rfl rfl (by go_simp) ?_
 simp only [pN,zT,zZ,zU]
 refine TillZ.any_done (by kernel_rfl) ?_ _
 clear hS0 t0 t1 k0 k1
 go_wp2_with fail
 go_ret
 exact ⟨rfl,⟨(HB1.out.box.drew.other ⟨g,i * 2,none⟩ _ HFG.out.1).other ⟨g,i * 2 + 1,none⟩ _ HFG.out.1,by have h3:=HST.out;simpa using h3,HB1.out.far,HB1.out.hB,HB1.out.hM,HB1.out.ne,((World.ownsMap.drew HB1.out.map).setCell (a:=⟨g,i * 2,none⟩) (fun e => HFG.out.2 e.symm) _).setCell (a:=⟨g,i * 2 + 1,none⟩) (fun e => HFG.out.2 e.symm) _,HB1.out.rise⟩,(HBB.out.drew.setCell (p:=⟨g,i * 2,none⟩) HBG.out _).setCell (p:=⟨g,i * 2 + 1,none⟩) HBG.out _⟩
end Go.Proofs.YtbgoldeopmlbnaaGreatDoor
namespace Go.Proofs.YtbgoldeopmlbnaaGreatDoor
open Go.RowKit Go.PlainAid G
set_option linter.unusedVariables false
theorem nil_right1 (a b c d : Int) (w : World) : (nilAhead 328 96 (.agg #[.int .i64 a, .int .i64 b, .int .i64 c, .int .i64 d]) "loop.example/g00839/impl.right").run Tryz.prog w = .ok (some false) w := by kernel_rfl
theorem met_right1 (a b c d : Int) (w : World) : (method 328 96 (.agg #[.int .i64 a, .int .i64 b, .int .i64 c, .int .i64 d]) "loop.example/g00839/impl.right").run Tryz.prog w = .ok (160, .agg #[.int .i64 a, .int .i64 b, .int .i64 c, .int .i64 d]) w := by kernel_rfl
theorem nil_whole1 (a b c d : Int) (w : World) : (nilAhead 328 96 (.agg #[.int .i64 a, .int .i64 b, .int .i64 c, .int .i64 d]) "loop.example/g00839/impl.whole").run Tryz.prog w = .ok (some false) w := by kernel_rfl
theorem met_whole1 (a b c d : Int) (w : World) : (method 328 96 (.agg #[.int .i64 a, .int .i64 b, .int .i64 c, .int .i64 d]) "loop.example/g00839/impl.whole").run Tryz.prog w = .ok (161, .agg #[.int .i64 a, .int .i64 b, .int .i64 c, .int .i64 d]) w := by kernel_rfl
theorem nil_bytes1 (a b c d : Int) (w : World) : (nilAhead 328 96 (.agg #[.int .i64 a, .int .i64 b, .int .i64 c, .int .i64 d]) "loop.example/g00839/impl.bytes").run Tryz.prog w = .ok (some false) w := by kernel_rfl
theorem met_bytes1 (a b c d : Int) (w : World) : (method 328 96 (.agg #[.int .i64 a, .int .i64 b, .int .i64 c, .int .i64 d]) "loop.example/g00839/impl.bytes").run Tryz.prog w = .ok (158, .agg #[.int .i64 a, .int .i64 b, .int .i64 c, .int .i64 d]) w := by kernel_rfl
theorem nil_right2 (a : Int) (b : ByteArray) (w : World) : (nilAhead 328 97 (.agg #[.int .i64 a, .string b]) "loop.example/g00839/impl.right").run Tryz.prog w = .ok (some false) w := by kernel_rfl
theorem met_right2 (a : Int) (b : ByteArray) (w : World) : (method 328 97 (.agg #[.int .i64 a, .string b]) "loop.example/g00839/impl.right").run Tryz.prog w = .ok (164, .agg #[.int .i64 a, .string b]) w := by kernel_rfl
theorem nil_whole2 (a : Int) (b : ByteArray) (w : World) : (nilAhead 328 97 (.agg #[.int .i64 a, .string b]) "loop.example/g00839/impl.whole").run Tryz.prog w = .ok (some false) w := by kernel_rfl
theorem met_whole2 (a : Int) (b : ByteArray) (w : World) : (method 328 97 (.agg #[.int .i64 a, .string b]) "loop.example/g00839/impl.whole").run Tryz.prog w = .ok (165, .agg #[.int .i64 a, .string b]) w := by kernel_rfl
theorem nil_bytes2 (a : Int) (b : ByteArray) (w : World) : (nilAhead 328 97 (.agg #[.int .i64 a, .string b]) "loop.example/g00839/impl.bytes").run Tryz.prog w = .ok (some false) w := by kernel_rfl
theorem met_bytes2 (a : Int) (b : ByteArray) (w : World) : (method 328 97 (.agg #[.int .i64 a, .string b]) "loop.example/g00839/impl.bytes").run Tryz.prog w = .ok (162, .agg #[.int .i64 a, .string b]) w := by kernel_rfl
theorem nil_right3 (a : ByteArray) (b : Int) (c : ByteArray) (w : World) : (nilAhead 328 98 (.agg #[.string a, .int .i64 b, .string c]) "loop.example/g00839/impl.right").run Tryz.prog w = .ok (some false) w := by kernel_rfl
theorem met_right3 (a : ByteArray) (b : Int) (c : ByteArray) (w : World) : (method 328 98 (.agg #[.string a, .int .i64 b, .string c]) "loop.example/g00839/impl.right").run Tryz.prog w = .ok (168, .agg #[.string a, .int .i64 b, .string c]) w := by kernel_rfl
theorem nil_whole3 (a : ByteArray) (b : Int) (c : ByteArray) (w : World) : (nilAhead 328 98 (.agg #[.string a, .int .i64 b, .string c]) "loop.example/g00839/impl.whole").run Tryz.prog w = .ok (some false) w := by kernel_rfl
theorem met_whole3 (a : ByteArray) (b : Int) (c : ByteArray) (w : World) : (method 328 98 (.agg #[.string a, .int .i64 b, .string c]) "loop.example/g00839/impl.whole").run Tryz.prog w = .ok (169, .agg #[.string a, .int .i64 b, .string c]) w := by kernel_rfl
theorem nil_bytes3 (a : ByteArray) (b : Int) (c : ByteArray) (w : World) : (nilAhead 328 98 (.agg #[.string a, .int .i64 b, .string c]) "loop.example/g00839/impl.bytes").run Tryz.prog w = .ok (some false) w := by kernel_rfl
theorem met_bytes3 (a : ByteArray) (b : Int) (c : ByteArray) (w : World) : (method 328 98 (.agg #[.string a, .int .i64 b, .string c]) "loop.example/g00839/impl.bytes").run Tryz.prog w = .ok (166, .agg #[.string a, .int .i64 b, .string c]) w := by kernel_rfl
theorem nil_right4 (a : ByteArray) (w : World) : (nilAhead 328 99 (.string a) "loop.example/g00839/impl.right").run Tryz.prog w = .ok (some false) w := by kernel_rfl
theorem met_right4 (a : ByteArray) (w : World) : (method 328 99 (.string a) "loop.example/g00839/impl.right").run Tryz.prog w = .ok (172, .string a) w := by kernel_rfl
theorem nil_whole4 (a : ByteArray) (w : World) : (nilAhead 328 99 (.string a) "loop.example/g00839/impl.whole").run Tryz.prog w = .ok (some false) w := by kernel_rfl
theorem met_whole4 (a : ByteArray) (w : World) : (method 328 99 (.string a) "loop.example/g00839/impl.whole").run Tryz.prog w = .ok (173, .string a) w := by kernel_rfl
theorem nil_bytes4 (a : ByteArray) (w : World) : (nilAhead 328 99 (.string a) "loop.example/g00839/impl.bytes").run Tryz.prog w = .ok (some false) w := by kernel_rfl
theorem met_bytes4 (a : ByteArray) (w : World) : (method 328 99 (.string a) "loop.example/g00839/impl.bytes").run Tryz.prog w = .ok (170, .string a) w := by kernel_rfl
theorem implDeedRight_any (q0 q1 q2 q3 q4 q5 : Int) (q6 q7 : ByteArray) (q8 : Int) (q9 : ByteArray) (w : World) (h6 : q6.size <= maxLen) (h7 : q7.size <= maxLen) (h9 : q9.size <= maxLen) :
 Calls Tryz.prog 21 #[.agg #[.int .i64 q0,.int .i64 q1,.int .i64 q2,.int .i64 q3,.int .i64 q4,.int .i64 q5,.string q6,.string q7,.int .i64 q8,.string q9]] w fun e w' => e = .returned (.bool (deedB q0 q1 q2 q3 q4 q5 q6 q7 q8 q9)) /\ Below w.heap.size w w':=by
 obtain ⟨W,hW⟩ : ∃ W,W = w.alloc (.cells #[.int .i64 q0,.int .i64 q1,.int .i64 q2,.int .i64 q3,.int .i64 q4,.int .i64 q5,.string q6,.string q7,.int .i64 q8,.string q9] 34):=⟨_,rfl⟩
 have HB0 : Hid (Below w.heap.size w W):=qH (by rw [hW];exact (Below.refl _ _).alloc (Nat.le_refl _) _)
 have HA : Hid (BoxC W (w.heap.size) [.int .i64 q0,.int .i64 q1,.int .i64 q2,.int .i64 q3,.int .i64 q4,.int .i64 q5,.string q6,.string q7,.int .i64 q8,.string q9]):=qH (by rw [hW];exact BoxC.made _ _ _)
 have H6:=qH h6
 have H7:=qH h7
 have H9:=qH h9
 clear h6 h7 h9
 have hmx : Tryz.prog.follows .mixedOrders = true:=by kernel_rfl
 by_cases k1 : q0 = 1
 · subst k1
   have HX : Hid (deedB 1 q1 q2 q3 q4 q5 q6 q7 q8 q9 = (confB q1 q2 q3 q4 && (decide (q5 = 0 /\ q6 = ⟨#[]⟩) && decide (q7 = ⟨#[]⟩ /\ q8 = 0 /\ q9 = ⟨#[]⟩)))):=qH (by unfold deedB;simp [Bool.and_assoc,Bool.and_comm,Bool.and_left_comm])
   have hn:=nil_right1 q1 q2 q3 q4
   have hm:=met_right1 q1 q2 q3 q4
   have hn2:=nil_whole1 q1 q2 q3 q4
   have hm2:=met_whole1 q1 q2 q3 q4
   go_enter Tryz.func21,Tryz.ntmps21
   go_wp2_with fail
   rw [<- hW]
   clear hW
   refine (deedOf1_any 1 q1 q2 q3 q4 q5 q6 q7 q8 q9 rfl _).mono ?_
   rintro e w1 ⟨rfl,hb⟩
   have HB1:=qH (HB0.out.trans (hb.mono HB0.out.size))
   have HA1:=qH (HA.out.below hb)
   clear hb
   go_wp2_with fail
   have he:=eql_deed1 q1 q2 q3 q4 q5 q6 q7 q8 q9
   generalize (decide (q5 = 0 /\ q6 = ⟨#[]⟩) && decide (q7 = ⟨#[]⟩ /\ q8 = 0 /\ q9 = ⟨#[]⟩)) = ze at *
   cases hv : confB q1 q2 q3 q4
   · have HF : Hid (false = deedB 1 q1 q2 q3 q4 q5 q6 q7 q8 q9):=qH (by rw [HX.out,hv];rfl)
     clear HX
     refine TillZ.region (t:=2) hmx (fun _ => True) ?_
     refine TillZ.value (i:=0) (v:=.iface 96 (.agg #[.int .i64 q1,.int .i64 q2,.int .i64 q3,.int .i64 q4])) (by kernel_rfl) rfl rfl rfl (by go_simp) trivial ?_
     simp only [pS,List.set,zT,zZ]
     refine TillZ.value (i:=1) (v:=.bool true) (by kernel_rfl) rfl rfl rfl (by go_simp) trivial ?_
     simp only [pS,List.set,zT,zZ,zU]
     refine TillZ.hand (v:=.bool true) (by kernel_rfl) rfl rfl (by go_simp) ?_
     simp only [pS,List.set,zT,zZ,zU]
     refine TillZ.any_valueg (i:=3) (w':=w1.drew) (v:=.iface 96 (.agg #[.int .i64 q1,.int .i64 q2,.int .i64 q3,.int .i64 q4])) (by kernel_rfl) rfl (by kernel_rfl) (by go_simp) ?_
     simp only [pS,List.set,zT,zZ,zU]
     refine TillZ.any_callg (i:=4) (f:=160) (args:=#[.agg #[.int .i64 q1,.int .i64 q2,.int .i64 q3,.int .i64 q4]]) (by kernel_rfl) rfl (by kernel_rfl) (by first | (go_simp;done) | (go_simp;rw [hm];go_simp;done) | (go_simp;rw [hm];rfl)) ?_
     refine Calls.mono (right1_any q1 q2 q3 q4 _) ?_
     rintro e w2 ⟨rfl,hb⟩
     rw [hv]
     refine ⟨_,rfl,?_⟩
     simp only [pS,List.set,zT,zZ,zU]
     have HB2:=qH (HB1.out.drew.trans (hb.mono HB1.out.size))
     clear hb
     refine TillZ.any_value (i:=5) (v:=.bool false) (by kernel_rfl) rfl rfl (by go_simp) ?_
     simp only [pS,List.set,zT,zZ,zU]
     refine TillZ.any_value (i:=6) (v:=.bool false) (by kernel_rfl) rfl rfl (by go_simp) ?_
     simp only [pS,List.set,zT,zZ,zU]
     refine TillZ.still (m:=7) rfl (by kernel_rfl) (by kernel_rfl) ?_
     dsimp only [List.drop]
     iterate 4 (with_reducible refine TillZ.no (by kernel_rfl) ?_;simp only [pS,List.set])
     iterate 2 (with_reducible refine TillZ.step (by kernel_rfl) (fun K hK => ?_);go_simp;refine hK _ ?_;clear hK K)
     with_reducible refine wpStill_nil ?_
     go_wp2_with fail
     go_ret
     exact ⟨ret_bool HF.out,HB2.out⟩
   · have HF : Hid (ze = deedB 1 q1 q2 q3 q4 q5 q6 q7 q8 q9):=qH (by rw [HX.out,hv];rfl)
     clear HX
     go_region_with (first | (go_at_call 160;refine Calls.mono (right1_any q1 q2 q3 q4 _) ?_;rintro e w2 ⟨rfl,hb⟩;rw [hv];have HB2:=qH (HB1.out.drew.trans (hb.mono HB1.out.size));have HA2:=qH (HA1.out.drew.below hb);clear hb;have x0:=HA2.out.cell 0 _ rfl;have x1:=HA2.out.cell 1 _ rfl;have x2:=HA2.out.cell 2 _ rfl;have x3:=HA2.out.cell 3 _ rfl;have x4:=HA2.out.cell 4 _ rfl;have x5:=HA2.out.cell 5 _ rfl;have x6:=HA2.out.cell 6 _ rfl;have x7:=HA2.out.cell 7 _ rfl;have x8:=HA2.out.cell 8 _ rfl;have x9:=HA2.out.cell 9 _ rfl) | (go_at_call 161;refine Calls.mono (whole1_any q1 q2 q3 q4 _) ?_;rintro e w3 ⟨rfl,hb⟩;have HB3:=qH (HB2.out.trans (hb.mono HB2.out.size));have HA3:=qH (HA2.out.below hb);clear hb x0 x1 x2 x3 x4 x5 x6 x7 x8 x9;have y0:=HA3.out.cell 0 _ rfl;have y1:=HA3.out.cell 1 _ rfl;have y2:=HA3.out.cell 2 _ rfl;have y3:=HA3.out.cell 3 _ rfl;have y4:=HA3.out.cell 4 _ rfl;have y5:=HA3.out.cell 5 _ rfl;have y6:=HA3.out.cell 6 _ rfl;have y7:=HA3.out.cell 7 _ rfl;have y8:=HA3.out.cell 8 _ rfl;have y9:=HA3.out.cell 9 _ rfl))
     all_goals
      go_wp2_with fail
      go_ret
      exact ⟨ret_bool HF.out,HB3.out⟩
 · skip
   by_cases k2 : q0 = 2
   · subst k2
     have HX : Hid (deedB 2 q1 q2 q3 q4 q5 q6 q7 q8 q9 = (termB q5 q6 && (decide (q1 = 0 /\ q2 = 0 /\ q3 = 0 /\ q4 = 0) && decide (q7 = ⟨#[]⟩ /\ q8 = 0 /\ q9 = ⟨#[]⟩)))):=qH (by unfold deedB;simp [Bool.and_assoc,Bool.and_comm,Bool.and_left_comm])
     have hn:=nil_right2 q5 q6
     have hm:=met_right2 q5 q6
     have hn2:=nil_whole2 q5 q6
     have hm2:=met_whole2 q5 q6
     go_enter Tryz.func21,Tryz.ntmps21
     go_wp2_with fail
     rw [<- hW]
     clear hW
     refine (deedOf2_any 2 q1 q2 q3 q4 q5 q6 q7 q8 q9 rfl _).mono ?_
     rintro e w1 ⟨rfl,hb⟩
     have HB1:=qH (HB0.out.trans (hb.mono HB0.out.size))
     have HA1:=qH (HA.out.below hb)
     clear hb
     go_wp2_with fail
     have he:=eql_deed2 q1 q2 q3 q4 q5 q6 q7 q8 q9
     generalize (decide (q1 = 0 /\ q2 = 0 /\ q3 = 0 /\ q4 = 0) && decide (q7 = ⟨#[]⟩ /\ q8 = 0 /\ q9 = ⟨#[]⟩)) = ze at *
     cases hv : termB q5 q6
     · have HF : Hid (false = deedB 2 q1 q2 q3 q4 q5 q6 q7 q8 q9):=qH (by rw [HX.out,hv];rfl)
       clear HX
       refine TillZ.region (t:=2) hmx (fun _ => True) ?_
       refine TillZ.value (i:=0) (v:=.iface 97 (.agg #[.int .i64 q5,.string q6])) (by kernel_rfl) rfl rfl rfl (by go_simp) trivial ?_
       simp only [pS,List.set,zT,zZ]
       refine TillZ.value (i:=1) (v:=.bool true) (by kernel_rfl) rfl rfl rfl (by go_simp) trivial ?_
       simp only [pS,List.set,zT,zZ,zU]
       refine TillZ.hand (v:=.bool true) (by kernel_rfl) rfl rfl (by go_simp) ?_
       simp only [pS,List.set,zT,zZ,zU]
       refine TillZ.any_valueg (i:=3) (w':=w1.drew) (v:=.iface 97 (.agg #[.int .i64 q5,.string q6])) (by kernel_rfl) rfl (by kernel_rfl) (by go_simp) ?_
       simp only [pS,List.set,zT,zZ,zU]
       refine TillZ.any_callg (i:=4) (f:=164) (args:=#[.agg #[.int .i64 q5,.string q6]]) (by kernel_rfl) rfl (by kernel_rfl) (by first | (go_simp;done) | (go_simp;rw [hm];go_simp;done) | (go_simp;rw [hm];rfl)) ?_
       refine Calls.mono (right2_any q5 q6 _ H6.out) ?_
       rintro e w2 ⟨rfl,hb⟩
       rw [hv]
       refine ⟨_,rfl,?_⟩
       simp only [pS,List.set,zT,zZ,zU]
       have HB2:=qH (HB1.out.drew.trans (hb.mono HB1.out.size))
       clear hb
       refine TillZ.any_value (i:=5) (v:=.bool false) (by kernel_rfl) rfl rfl (by go_simp) ?_
       simp only [pS,List.set,zT,zZ,zU]
       refine TillZ.any_value (i:=6) (v:=.bool false) (by kernel_rfl) rfl rfl (by go_simp) ?_
       simp only [pS,List.set,zT,zZ,zU]
       refine TillZ.still (m:=7) rfl (by kernel_rfl) (by kernel_rfl) ?_
       dsimp only [List.drop]
       iterate 4 (with_reducible refine TillZ.no (by kernel_rfl) ?_;simp only [pS,List.set])
       iterate 2 (with_reducible refine TillZ.step (by kernel_rfl) (fun K hK => ?_);go_simp;refine hK _ ?_;clear hK K)
       with_reducible refine wpStill_nil ?_
       go_wp2_with fail
       go_ret
       exact ⟨ret_bool HF.out,HB2.out⟩
     · have HF : Hid (ze = deedB 2 q1 q2 q3 q4 q5 q6 q7 q8 q9):=qH (by rw [HX.out,hv];rfl)
       clear HX
       go_region_with (first | (go_at_call 164;refine Calls.mono (right2_any q5 q6 _ H6.out) ?_;rintro e w2 ⟨rfl,hb⟩;rw [hv];have HB2:=qH (HB1.out.drew.trans (hb.mono HB1.out.size));have HA2:=qH (HA1.out.drew.below hb);clear hb;have x0:=HA2.out.cell 0 _ rfl;have x1:=HA2.out.cell 1 _ rfl;have x2:=HA2.out.cell 2 _ rfl;have x3:=HA2.out.cell 3 _ rfl;have x4:=HA2.out.cell 4 _ rfl;have x5:=HA2.out.cell 5 _ rfl;have x6:=HA2.out.cell 6 _ rfl;have x7:=HA2.out.cell 7 _ rfl;have x8:=HA2.out.cell 8 _ rfl;have x9:=HA2.out.cell 9 _ rfl) | (go_at_call 165;refine Calls.mono (whole2_any q5 q6 _) ?_;rintro e w3 ⟨rfl,hb⟩;have HB3:=qH (HB2.out.trans (hb.mono HB2.out.size));have HA3:=qH (HA2.out.below hb);clear hb x0 x1 x2 x3 x4 x5 x6 x7 x8 x9;have y0:=HA3.out.cell 0 _ rfl;have y1:=HA3.out.cell 1 _ rfl;have y2:=HA3.out.cell 2 _ rfl;have y3:=HA3.out.cell 3 _ rfl;have y4:=HA3.out.cell 4 _ rfl;have y5:=HA3.out.cell 5 _ rfl;have y6:=HA3.out.cell 6 _ rfl;have y7:=HA3.out.cell 7 _ rfl;have y8:=HA3.out.cell 8 _ rfl;have y9:=HA3.out.cell 9 _ rfl))
       all_goals
        go_wp2_with fail
        go_ret
        exact ⟨ret_bool HF.out,HB3.out⟩
   · skip
     by_cases k3 : q0 = 3
     · subst k3
       have HX : Hid (deedB 3 q1 q2 q3 q4 q5 q6 q7 q8 q9 = (itemB q7 q8 q9 && (decide (q1 = 0 /\ q2 = 0 /\ q3 = 0 /\ q4 = 0) && decide (q5 = 0 /\ q6 = ⟨#[]⟩)))):=qH (by unfold deedB;simp [Bool.and_assoc,Bool.and_comm,Bool.and_left_comm])
       have hn:=nil_right3 q7 q8 q9
       have hm:=met_right3 q7 q8 q9
       have hn2:=nil_whole3 q7 q8 q9
       have hm2:=met_whole3 q7 q8 q9
       go_enter Tryz.func21,Tryz.ntmps21
       go_wp2_with fail
       rw [<- hW]
       clear hW
       refine (deedOf3_any 3 q1 q2 q3 q4 q5 q6 q7 q8 q9 rfl _).mono ?_
       rintro e w1 ⟨rfl,hb⟩
       have HB1:=qH (HB0.out.trans (hb.mono HB0.out.size))
       have HA1:=qH (HA.out.below hb)
       clear hb
       go_wp2_with fail
       have he:=eql_deed3 q1 q2 q3 q4 q5 q6 q7 q8 q9
       generalize (decide (q1 = 0 /\ q2 = 0 /\ q3 = 0 /\ q4 = 0) && decide (q5 = 0 /\ q6 = ⟨#[]⟩)) = ze at *
       cases hv : itemB q7 q8 q9
       · have HF : Hid (false = deedB 3 q1 q2 q3 q4 q5 q6 q7 q8 q9):=qH (by rw [HX.out,hv];rfl)
         clear HX
         refine TillZ.region (t:=2) hmx (fun _ => True) ?_
         refine TillZ.value (i:=0) (v:=.iface 98 (.agg #[.string q7,.int .i64 q8,.string q9])) (by kernel_rfl) rfl rfl rfl (by go_simp) trivial ?_
         simp only [pS,List.set,zT,zZ]
         refine TillZ.value (i:=1) (v:=.bool true) (by kernel_rfl) rfl rfl rfl (by go_simp) trivial ?_
         simp only [pS,List.set,zT,zZ,zU]
         refine TillZ.hand (v:=.bool true) (by kernel_rfl) rfl rfl (by go_simp) ?_
         simp only [pS,List.set,zT,zZ,zU]
         refine TillZ.any_valueg (i:=3) (w':=w1.drew) (v:=.iface 98 (.agg #[.string q7,.int .i64 q8,.string q9])) (by kernel_rfl) rfl (by kernel_rfl) (by go_simp) ?_
         simp only [pS,List.set,zT,zZ,zU]
         refine TillZ.any_callg (i:=4) (f:=168) (args:=#[.agg #[.string q7,.int .i64 q8,.string q9]]) (by kernel_rfl) rfl (by kernel_rfl) (by first | (go_simp;done) | (go_simp;rw [hm];go_simp;done) | (go_simp;rw [hm];rfl)) ?_
         refine Calls.mono (right3_any q7 q8 q9 _ H7.out H9.out) ?_
         rintro e w2 ⟨rfl,hb⟩
         rw [hv]
         refine ⟨_,rfl,?_⟩
         simp only [pS,List.set,zT,zZ,zU]
         have HB2:=qH (HB1.out.drew.trans (hb.mono HB1.out.size))
         clear hb
         refine TillZ.any_value (i:=5) (v:=.bool false) (by kernel_rfl) rfl rfl (by go_simp) ?_
         simp only [pS,List.set,zT,zZ,zU]
         refine TillZ.any_value (i:=6) (v:=.bool false) (by kernel_rfl) rfl rfl (by go_simp) ?_
         simp only [pS,List.set,zT,zZ,zU]
         refine TillZ.still (m:=7) rfl (by kernel_rfl) (by kernel_rfl) ?_
         dsimp only [List.drop]
         iterate 4 (with_reducible refine TillZ.no (by kernel_rfl) ?_;simp only [pS,List.set])
         iterate 2 (with_reducible refine TillZ.step (by kernel_rfl) (fun K hK => ?_);go_simp;refine hK _ ?_;clear hK K)
         with_reducible refine wpStill_nil ?_
         go_wp2_with fail
         go_ret
         exact ⟨ret_bool HF.out,HB2.out⟩
       · have HF : Hid (ze = deedB 3 q1 q2 q3 q4 q5 q6 q7 q8 q9):=qH (by rw [HX.out,hv];rfl)
         clear HX
         go_region_with (first | (go_at_call 168;refine Calls.mono (right3_any q7 q8 q9 _ H7.out H9.out) ?_;rintro e w2 ⟨rfl,hb⟩;rw [hv];have HB2:=qH (HB1.out.drew.trans (hb.mono HB1.out.size));have HA2:=qH (HA1.out.drew.below hb);clear hb;have x0:=HA2.out.cell 0 _ rfl;have x1:=HA2.out.cell 1 _ rfl;have x2:=HA2.out.cell 2 _ rfl;have x3:=HA2.out.cell 3 _ rfl;have x4:=HA2.out.cell 4 _ rfl;have x5:=HA2.out.cell 5 _ rfl;have x6:=HA2.out.cell 6 _ rfl;have x7:=HA2.out.cell 7 _ rfl;have x8:=HA2.out.cell 8 _ rfl;have x9:=HA2.out.cell 9 _ rfl) | (go_at_call 169;refine Calls.mono (whole3_any q7 q8 q9 _) ?_;rintro e w3 ⟨rfl,hb⟩;have HB3:=qH (HB2.out.trans (hb.mono HB2.out.size));have HA3:=qH (HA2.out.below hb);clear hb x0 x1 x2 x3 x4 x5 x6 x7 x8 x9;have y0:=HA3.out.cell 0 _ rfl;have y1:=HA3.out.cell 1 _ rfl;have y2:=HA3.out.cell 2 _ rfl;have y3:=HA3.out.cell 3 _ rfl;have y4:=HA3.out.cell 4 _ rfl;have y5:=HA3.out.cell 5 _ rfl;have y6:=HA3.out.cell 6 _ rfl;have y7:=HA3.out.cell 7 _ rfl;have y8:=HA3.out.cell 8 _ rfl;have y9:=HA3.out.cell 9 _ rfl))
         all_goals
          go_wp2_with fail
          go_ret
          exact ⟨ret_bool HF.out,HB3.out⟩
     · skip
       by_cases k4 : q0 = 4
       · subst k4
         have HX : Hid (deedB 4 q1 q2 q3 q4 q5 q6 q7 q8 q9 = (wordB q7 && (decide (q1 = 0 /\ q2 = 0 /\ q3 = 0 /\ q4 = 0) && decide (q5 = 0 /\ q6 = ⟨#[]⟩) && decide (q8 = 0 /\ q9 = ⟨#[]⟩)))):=qH (by unfold deedB;simp [Bool.and_assoc,Bool.and_comm,Bool.and_left_comm])
         have hn:=nil_right4 q7
         have hm:=met_right4 q7
         have hn2:=nil_whole4 q7
         have hm2:=met_whole4 q7
         go_enter Tryz.func21,Tryz.ntmps21
         go_wp2_with fail
         rw [<- hW]
         clear hW
         refine (deedOf4_any 4 q1 q2 q3 q4 q5 q6 q7 q8 q9 rfl _).mono ?_
         rintro e w1 ⟨rfl,hb⟩
         have HB1:=qH (HB0.out.trans (hb.mono HB0.out.size))
         have HA1:=qH (HA.out.below hb)
         clear hb
         go_wp2_with fail
         have he:=eql_deed4 q1 q2 q3 q4 q5 q6 q7 q8 q9
         generalize (decide (q1 = 0 /\ q2 = 0 /\ q3 = 0 /\ q4 = 0) && decide (q5 = 0 /\ q6 = ⟨#[]⟩) && decide (q8 = 0 /\ q9 = ⟨#[]⟩)) = ze at *
         cases hv : wordB q7
         · have HF : Hid (false = deedB 4 q1 q2 q3 q4 q5 q6 q7 q8 q9):=qH (by rw [HX.out,hv];rfl)
           clear HX
           refine TillZ.region (t:=2) hmx (fun _ => True) ?_
           refine TillZ.value (i:=0) (v:=.iface 99 (.string q7)) (by kernel_rfl) rfl rfl rfl (by go_simp) trivial ?_
           simp only [pS,List.set,zT,zZ]
           refine TillZ.value (i:=1) (v:=.bool true) (by kernel_rfl) rfl rfl rfl (by go_simp) trivial ?_
           simp only [pS,List.set,zT,zZ,zU]
           refine TillZ.hand (v:=.bool true) (by kernel_rfl) rfl rfl (by go_simp) ?_
           simp only [pS,List.set,zT,zZ,zU]
           refine TillZ.any_valueg (i:=3) (w':=w1.drew) (v:=.iface 99 (.string q7)) (by kernel_rfl) rfl (by kernel_rfl) (by go_simp) ?_
           simp only [pS,List.set,zT,zZ,zU]
           refine TillZ.any_callg (i:=4) (f:=172) (args:=#[.string q7]) (by kernel_rfl) rfl (by kernel_rfl) (by first | (go_simp;done) | (go_simp;rw [hm];go_simp;done) | (go_simp;rw [hm];rfl)) ?_
           refine Calls.mono (right4_any q7 _ H7.out) ?_
           rintro e w2 ⟨rfl,hb⟩
           rw [hv]
           refine ⟨_,rfl,?_⟩
           simp only [pS,List.set,zT,zZ,zU]
           have HB2:=qH (HB1.out.drew.trans (hb.mono HB1.out.size))
           clear hb
           refine TillZ.any_value (i:=5) (v:=.bool false) (by kernel_rfl) rfl rfl (by go_simp) ?_
           simp only [pS,List.set,zT,zZ,zU]
           refine TillZ.any_value (i:=6) (v:=.bool false) (by kernel_rfl) rfl rfl (by go_simp) ?_
           simp only [pS,List.set,zT,zZ,zU]
           refine TillZ.still (m:=7) rfl (by kernel_rfl) (by kernel_rfl) ?_
           dsimp only [List.drop]
           iterate 4 (with_reducible refine TillZ.no (by kernel_rfl) ?_;simp only [pS,List.set])
           iterate 2 (with_reducible refine TillZ.step (by kernel_rfl) (fun K hK => ?_);go_simp;refine hK _ ?_;clear hK K)
           with_reducible refine wpStill_nil ?_
           go_wp2_with fail
           go_ret
           exact ⟨ret_bool HF.out,HB2.out⟩
         · have HF : Hid (ze = deedB 4 q1 q2 q3 q4 q5 q6 q7 q8 q9):=qH (by rw [HX.out,hv];rfl)
           clear HX
           go_region_with (first | (go_at_call 172;refine Calls.mono (right4_any q7 _ H7.out) ?_;rintro e w2 ⟨rfl,hb⟩;rw [hv];have HB2:=qH (HB1.out.drew.trans (hb.mono HB1.out.size));have HA2:=qH (HA1.out.drew.below hb);clear hb;have x0:=HA2.out.cell 0 _ rfl;have x1:=HA2.out.cell 1 _ rfl;have x2:=HA2.out.cell 2 _ rfl;have x3:=HA2.out.cell 3 _ rfl;have x4:=HA2.out.cell 4 _ rfl;have x5:=HA2.out.cell 5 _ rfl;have x6:=HA2.out.cell 6 _ rfl;have x7:=HA2.out.cell 7 _ rfl;have x8:=HA2.out.cell 8 _ rfl;have x9:=HA2.out.cell 9 _ rfl) | (go_at_call 173;refine Calls.mono (whole4_any q7 _) ?_;rintro e w3 ⟨rfl,hb⟩;have HB3:=qH (HB2.out.trans (hb.mono HB2.out.size));have HA3:=qH (HA2.out.below hb);clear hb x0 x1 x2 x3 x4 x5 x6 x7 x8 x9;have y0:=HA3.out.cell 0 _ rfl;have y1:=HA3.out.cell 1 _ rfl;have y2:=HA3.out.cell 2 _ rfl;have y3:=HA3.out.cell 3 _ rfl;have y4:=HA3.out.cell 4 _ rfl;have y5:=HA3.out.cell 5 _ rfl;have y6:=HA3.out.cell 6 _ rfl;have y7:=HA3.out.cell 7 _ rfl;have y8:=HA3.out.cell 8 _ rfl;have y9:=HA3.out.cell 9 _ rfl))
           all_goals
            go_wp2_with fail
            go_ret
            exact ⟨ret_bool HF.out,HB3.out⟩
       · skip
         have HF : Hid (false = deedB q0 q1 q2 q3 q4 q5 q6 q7 q8 q9):=qH (by unfold deedB;rw [if_neg k1,if_neg k2,if_neg k3,if_neg k4])
         go_enter Tryz.func21,Tryz.ntmps21
         go_wp2_with fail
         rw [<- hW]
         clear hW
         refine (deedOf0_any q0 q1 q2 q3 q4 q5 q6 q7 q8 q9 k1 k2 k3 k4 _).mono ?_
         rintro e w1 ⟨rfl,hb⟩
         have HB1:=qH (HB0.out.trans (hb.mono HB0.out.size))
         clear hb
         go_wp2_with fail
         go_region
         all_goals
          go_wp2_with fail
          go_ret
          exact ⟨ret_bool HF.out,HB1.out.drew⟩
end Go.Proofs.YtbgoldeopmlbnaaGreatDoor
