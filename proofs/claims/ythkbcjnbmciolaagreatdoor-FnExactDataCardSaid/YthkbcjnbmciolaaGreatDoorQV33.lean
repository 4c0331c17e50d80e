/- Used by the law. -/
import Derived.Test.YthkbcjnbmciolaaGreatDoorQV31
import Derived.Test.YthkbcjnbmciolaaGreatDoorQV32
set_option maxRecDepth 100000
set_option maxHeartbeats 16000000
namespace Go.Proofs.YthkbcjnbmciolaaGreatDoor
open Go.RowKit Go.PlainAid G MGF IRow MNum MJoin
set_option linter.unusedVariables false
theorem sharesOf_any (a : Option Addr) (k cap : Nat) (l : List Ev) (w : World) (h : ER w a k cap l) (hk : k <= 1048576) :
 Calls Tryz.prog 104 #[.slice a k cap] w fun e w' => ∃ a' c',e = .returned (.slice a' k c') /\ w'.ownsRow w.heap.size 194 shE.k (.slice a' k c') k (shE.flat (l.map shOf)) /\ Below w.heap.size w w':=by
 have HL:=qH h.len
 obtain ⟨i0,hi,hz0,hz1,hz2⟩:=info_parts infoShare
 go_enter Tryz.func104,Tryz.ntmps104
 go_wp2_with (at_make;refine wpList_make_own _ rfl (.const (.int .i64 0)) (.tmp 7) 152 rfl w.heap.size 194 i0 (.agg #[.int .i64 0,.string ByteArray.empty]) 2 Tryz.underlying152 hi hz0 hz1 .i64 .i64 _ k rfl rfl rfl (by rw [hz2];omega) (by unfold maxLen;omega) (Nat.le_refl _) ?_;intro w4 hown4 hg4;have HO4 : Hid (w4.ownsRow w.heap.size 194 shE.k _ 0 (shE.flat ((l.take 0).map shOf))):=qH hown4;have HB4:=qH (below_of_none hg4);clear hown4 hg4)
 go_loopw [3,11] (fun v i wr => ∃ j : Nat,j <= k /\ i = .int .i64 j /\ wr.ownsRow w.heap.size 194 shE.k v j (shE.flat ((l.take j).map shOf)) /\ Below w.heap.size w wr) (fun _ i _ => k - (intOf i).toNat)
 case atStart => exact ⟨0,Nat.zero_le _,rfl,HO4.out,HB4.out⟩
 case round =>
  obtain ⟨j,hj,rfl,hown,hB⟩:=hrel
  by_cases hlt : j < k
  · obtain ⟨g,o,rfl,hg,c0,c1,c2,c3,c4⟩:=h.at hlt
    have a0:=(hB.cell (p:=⟨g,o + j * 5,none⟩) hg).trans c0
    have a1:=(hB.cell (p:=⟨g,o + j * 5 + 1,none⟩) hg).trans c1
    have a2:=(hB.cell (p:=⟨g,o + j * 5 + 2,none⟩) hg).trans c2
    have a3:=(hB.cell (p:=⟨g,o + j * 5 + 3,none⟩) hg).trans c3
    have a4:=(hB.cell (p:=⟨g,o + j * 5 + 4,none⟩) hg).trans c4
    have HTK:=qH (map_shTake (l:=l) (j:=j) (by rw [HL.out];exact hlt))
    have HO:=qH hown
    have HB:=qH hB
    generalize (l.getD j evD).g = eg at *
    generalize (l.getD j evD).n = en at *
    generalize (l.getD j evD).m = em at *
    generalize (l.getD j evD).x = ex at *
    generalize (l.getD j evD).t = et at *
    clear hown hB c0 c1 c2 c3 c4 HB4 HO4
    obtain ⟨V,hV⟩ : ∃ V,V = wr.alloc (.cells #[.int .i64 eg,.int .i64 en,.int .i64 em,.int .i64 ex,.string et] 101):=⟨_,rfl⟩
    have hBV : Below wr.heap.size wr V:=by rw [hV];exact (Below.refl _ _).alloc (Nat.le_refl _) _
    have HVX:=qH (show BoxC V wr.heap.size [.int .i64 eg,.int .i64 en,.int .i64 em,.int .i64 ex,.string et] by rw [hV];exact BoxC.made _ _ _)
    have hown5:=own_below HO.out hBV
    have HOV:=qH hown5
    have HBV:=qH (HB.out.trans (hBV.mono HB.out.size))
    have hszV:=HBV.out.size
    clear hBV HO HB
    go_upto_region 5 with fail
    rw [<- hV]
    clear hV a0 a1 a2 a3 a4
    have y3:=HVX.out.cell 3 _ rfl
    have y4:=HVX.out.cell 4 _ rfl
    go_wp2_with (at_builtin;refine append_enc shE rfl (.tmp 15) (.tmp 21) 152 rfl 194 i0 (.agg #[.int .i64 0,.string ByteArray.empty]) 24 Tryz.underlying152 hi hz0 hz1 hz2 rfl (by decide) (by decide) w.heap.size _ _ _ rfl hown5 (ex,et) _ rfl _ rfl hszV (by omega) ?_;intro v' w8 hown8 hg8 _;have HO8:=qH hown8;have HB8:=qH (below_grow HBV.out HOV.out (Nat.le_refl _) hg8 hszV);clear hown8 hg8 hown5)
    go_roundw
    case rel => exact ⟨j + 1,by omega,by go_num,by rw [HTK.out];exact HO8.out,HB8.out⟩
    case measure => simp [intOf];omega
  · obtain rfl : j = k:=by omega
    obtain ⟨ar,cr,rfl⟩:=own_shape hown
    have HF : Hid ((l.take j).map shOf = l.map shOf):=qH (by rw [List.take_of_length_le (by rw [HL.out];exact Nat.le_refl _)])
    have HO:=qH hown
    have HB:=qH hB
    clear hown hB h
    go_wp2_with fail
    go_ret
    exact ⟨ar,cr,rfl,by rw [<- HF.out];exact HO.out,HB.out⟩
theorem envsFit_any (c0 c1 c2 c3 : Int) (a : Option Addr) (k cap : Nat) (l : List Ev) (w : World) (h : ER w a k cap l) (hk : k <= 1048576) (ht : ∀ t,t < k -> (l.getD t evD).t.size <= maxLen) :
 Calls Tryz.prog 86 #[.agg #[.int .i64 c0,.int .i64 c1,.int .i64 c2,.int .i64 c3],.slice a k cap] w fun e w' => e = .returned (.bool (fitB c0 c1 c2 l)) /\ Below w.heap.size w w':=by
 have HL:=qH h.len
 have HT:=qH ht
 have HE:=qH h
 clear ht h
 obtain ⟨W,hW⟩ : ∃ W,W = w.alloc (.cells #[.int .i64 c0,.int .i64 c1,.int .i64 c2,.int .i64 c3] 39):=⟨_,rfl⟩
 have HB0:=qH (show Below w.heap.size w W by rw [hW];exact (Below.refl _ _).alloc (Nat.le_refl _) _)
 have HX0:=qH (show BoxC W w.heap.size [.int .i64 c0,.int .i64 c1,.int .i64 c2,.int .i64 c3] by rw [hW];exact BoxC.made _ _ _)
 have HWS:=qH HX0.out.lt
 by_cases h0 : k = 0
 · have HF : Hid (fitB c0 c1 c2 l = true):=qH (by rw [List.eq_nil_of_length_eq_zero (show l.length = 0 by rw [HL.out,h0])];rfl)
   subst h0
   go_enter Tryz.func86,Tryz.ntmps86
   go_upto_region 1 with fail
   rw [<- hW]
   clear hW
   go_wp2_with fail
   go_ret
   exact ⟨ret_bool HF.out.symm,HB0.out⟩
 · have hk0 : ((k : Int) == 0) = false:=by rw [beq_eq_false_iff_ne];omega
   by_cases h1 : (k : Int) < c1
   · have hge : ¬ (k : Int) ≥ c1:=by omega
     have hge2 : ¬ c1 <= (k : Int):=by omega
     have HFB : Hid (∀ j,j < k -> okE c0 c1 c2 (l.getD j evD) = false -> fitB c0 c1 c2 l = false):=qH (fun j hj hb => fitB_bad (by rw [HL.out];exact hj) hb)
     have HFA : Hid ((∀ t,t < k -> okE c0 c1 c2 (l.getD t evD) = true) -> fitB c0 c1 c2 l = decide (partsCode (l.map shOf) = 0)):=qH (fun hh => fitB_all (by rw [HL.out];exact h0) (by rw [HL.out];exact h1) (by rw [HL.out];exact hh))
     have h0n:=h0
     clear h0
     go_enter Tryz.func86,Tryz.ntmps86
     go_upto_region 1 with fail
     rw [<- hW]
     clear hW
     have x1:=HX0.out.cell 1 _ rfl
     go_wp2_with fail
     clear x1
     go_loopw [17] (fun i wr => ∃ j : Nat,j <= k /\ i = .int .i64 j /\ Hid (∀ t,t < j -> okE c0 c1 c2 (l.getD t evD) = true) /\ Hid (Below w.heap.size w wr) /\ Hid (BoxC wr w.heap.size [.int .i64 c0,.int .i64 c1,.int .i64 c2,.int .i64 c3])) (fun i _ => k - (intOf i).toNat)
     case atStart => exact ⟨0,Nat.zero_le _,rfl,qH (fun t ht => absurd ht (Nat.not_lt_zero _)),HB0,HX0⟩
     case round =>
      obtain ⟨j,hj,rfl,HA,HB,HX⟩:=hrel
      clear HB0 HX0
      by_cases hlt : j < k
      · obtain ⟨g,o,rfl,hg,b0,b1,b2,b3,b4⟩:=ER.at (SR.below HE.out HB.out) hlt
        have HTJ:=qH (HT.out j hlt)
        have HBAD:=qH (HFB.out j hlt)
        have HA2 : Hid (okE c0 c1 c2 (l.getD j evD) = true -> ∀ t,t < j + 1 -> okE c0 c1 c2 (l.getD t evD) = true):=qH (fun hb t ht => by
         by_cases e : t = j
         · rw [e];exact hb
         · exact HA.out t (by omega))
        generalize l.getD j evD = ev at *
        obtain ⟨eg,en,em,ex,et⟩:=ev
        dsimp only at b0 b1 b2 b3 b4 HTJ
        obtain ⟨V,hV⟩ : ∃ V,V = wr.alloc (.cells #[.int .i64 eg,.int .i64 en,.int .i64 em,.int .i64 ex,.string et] 101):=⟨_,rfl⟩
        have hBV : Below wr.heap.size wr V:=by rw [hV];exact (Below.refl _ _).alloc (Nat.le_refl _) _
        have HVX:=qH (show BoxC V wr.heap.size [.int .i64 eg,.int .i64 en,.int .i64 em,.int .i64 ex,.string et] by rw [hV];exact BoxC.made _ _ _)
        have HXV:=qH (HX.out.below hBV)
        have HBV:=qH (HB.out.trans (hBV.mono HB.out.size))
        clear hBV HB HX HA
        go_upto_region 8 with fail
        rw [<- hV]
        clear hV b0 b1 b2 b3 b4
        have y0:=HVX.out.cell 0 _ rfl
        have y1:=HVX.out.cell 1 _ rfl
        have y2:=HVX.out.cell 2 _ rfl
        have y3:=HVX.out.cell 3 _ rfl
        have y4:=HVX.out.cell 4 _ rfl
        go_wp2_with fail
        clear y0 y1 y2 y3 y4
        refine (implEnvRight_any eg en em ex et _ HTJ.out).mono ?_
        rintro e w5 ⟨rfl,hb⟩
        have HY:=qH (HVX.out.below hb)
        have HX5:=qH (HXV.out.below hb)
        have HB5:=qH (HBV.out.trans (hb.mono HBV.out.size))
        clear hb HVX HXV HBV
        cases hv : envB eg en em ex et
        · have HF:=qH (HBAD.out (okE_env hv))
          go_wp2_with fail
          go_ret
          exact ⟨ret_bool HF.out.symm,HB5.out⟩
        · have HEV:=qH hv
          clear hv
          have y0:=HY.out.cell 0 _ rfl
          have x0:=HX5.out.cell 0 _ rfl
          by_cases k0 : eg = c0
          · have y1:=HY.out.cell 1 _ rfl
            have x1:=HX5.out.cell 1 _ rfl
            by_cases k1 : en = c1
            · have y2:=HY.out.cell 2 _ rfl
              have x2:=HX5.out.cell 2 _ rfl
              by_cases k2 : em = c2
              · subst k0 k1 k2
                have HA3:=qH (HA2.out (okE_yes HEV.out))
                have hwj : IntKind.i64.wrap ((j : Int) + 1) = (j : Int) + 1:=IntWalk.i64_in _ (by omega)
                go_wp2_with fail
                go_roundw
                case rel => exact ⟨j + 1,by omega,by go_num,HA3,HB5,HX5⟩
                case measure => simp [intOf];omega
              · have kb2 : (em != c2) = true:=by simp [k2]
                have HF:=qH (HBAD.out (okE_num (fun e => k2 e.2.2)))
                clear k2
                go_wp2_with fail
                go_ret
                exact ⟨ret_bool HF.out.symm,HB5.out⟩
            · have kb1 : (en != c1) = true:=by simp [k1]
              have HF:=qH (HBAD.out (okE_num (fun e => k1 e.2.1)))
              clear k1
              go_wp2_with fail
              go_ret
              exact ⟨ret_bool HF.out.symm,HB5.out⟩
          · have kb0 : (eg != c0) = true:=by simp [k0]
            have HF:=qH (HBAD.out (okE_num (fun e => k0 e.1)))
            clear k0
            go_wp2_with fail
            go_ret
            exact ⟨ret_bool HF.out.symm,HB5.out⟩
      · obtain rfl : j = k:=by omega
        have HF:=qH (HFA.out HA.out)
        go_wp2_with fail
        refine (sharesOf_any a j cap l _ (SR.below HE.out HB.out) hk).mono ?_
        rintro e w5 ⟨s1,s2,rfl,ho,hb⟩
        have HO:=qH ho
        have HB5:=qH (HB.out.trans (hb.mono HB.out.size))
        clear hb ho HB
        go_wp2_with fail
        refine (partsFault_any s1 j s2 (l.map shOf) _ (HR.own HO.out) hk (fun t ht => by rw [show (l.map shOf).getD t shD = shOf (l.getD t evD) by simp [List.getD,List.getElem?_map,List.getElem?_eq_getElem (show t < l.length by rw [HL.out];exact ht)]];exact HT.out t ht)).mono ?_
        rintro e w6 ⟨rfl,hb⟩
        have HB6:=qH (HB5.out.trans (hb.mono HB5.out.size))
        clear hb HB5 HO
        generalize partsCode (l.map shOf) = pc at *
        go_wp2_with fail
        go_ret
        exact ⟨ret_bool (by rw [HF.out];by_cases hp : pc = 0 <;> simp [hp]),HB6.out⟩
   · have hge : (k : Int) ≥ c1:=by omega
     have hge2 : c1 <= (k : Int):=by omega
     have HF : Hid (fitB c0 c1 c2 l = false):=qH (fitB_long (by rw [HL.out];exact h0) (by rw [HL.out];exact h1))
     go_enter Tryz.func86,Tryz.ntmps86
     go_upto_region 1 with fail
     rw [<- hW]
     clear hW
     have x1:=HX0.out.cell 1 _ rfl
     go_wp2_with fail
     go_ret
     exact ⟨ret_bool HF.out.symm,HB0.out⟩
theorem empty_eqb (a : ByteArray) : a.toList.isEmpty = decide (a = ⟨#[]⟩):=by
 rw [<- toList_eqb a ⟨#[]⟩]
 rw [show (⟨#[]⟩ : ByteArray).toList = [] by unfold ByteArray.toList ByteArray.toList.loop;rfl]
 cases a.toList <;> rfl
def zeroC (c0 c1 c2 c3 : Int) : Bool:=decide (c0 = 0 /\ c1 = 0 /\ c2 = 0 /\ c3 = 0)
def masterB (op : Bool) (ma : ByteArray) (c0 c1 c2 c3 : Int) : Bool:=if op = true then !zeroC c0 c1 c2 c3 && decide (checkI ma = c3) else decide (ma = ⟨#[]⟩)
def gotB (op : Bool) (c0 c1 c2 : Int) (gs : List Ev) : Bool:=decide (gs.length = 0) || (!op && fitB c0 c1 c2 gs)
def rekeyB (op on : Bool) (nd mn c0 c1 c2 : Int) (rs : List Ev) : Bool:=if on = true then op && (manyB nd mn && fitB c0 c1 c2 rs) else decide (nd = 0 /\ mn = 0 /\ rs.length = 0)
theorem neq_confV (g n m c : Int) (W : World) : (binOp .neq 39 (.agg #[.int .i64 g,.int .i64 n,.int .i64 m,.int .i64 c]) (.agg #[.int .i64 0,.int .i64 0,.int .i64 0,.int .i64 0])).run Tryz.prog W = .ok (.bool (!(zeroC g n m c))) W:=neq_conf g n m c W
theorem masterRight_any (ds dt : ByteArray) (c0 c1 c2 c3 : Int) (op : Bool) (ma : ByteArray) (no : Int) (on : Bool) (nd mn : Int) (a1 : Option Addr) (n1 a3 : Nat) (a2 : Option Addr) (n2 a4 : Nat) (g1 : Option Addr) (gn g2 : Nat) (r1 : Option Addr) (rn r2 : Nat) (w : World) (hm : ma.size <= maxLen) :
 Calls Tryz.prog 56 #[.agg #[.string ds,.string dt,.int .i64 c0,.int .i64 c1,.int .i64 c2,.int .i64 c3,.slice a1 n1 a3,.slice a2 n2 a4,.bool op,.string ma,.slice g1 gn g2,.int .i64 no,.bool on,.int .i64 nd,.int .i64 mn,.slice r1 rn r2]] w fun e w' => e = .returned (.bool (masterB op ma c0 c1 c2 c3)) /\ Below w.heap.size w w':=by
 obtain ⟨W,hW⟩ : ∃ W,W = w.alloc (.cells #[.string ds,.string dt,.int .i64 c0,.int .i64 c1,.int .i64 c2,.int .i64 c3,.slice a1 n1 a3,.slice a2 n2 a4,.bool op,.string ma,.slice g1 gn g2,.int .i64 no,.bool on,.int .i64 nd,.int .i64 mn,.slice r1 rn r2] 48):=⟨_,rfl⟩
 have HB0:=qH (show Below w.heap.size w W by rw [hW];exact (Below.refl _ _).alloc (Nat.le_refl _) _)
 have HX0:=qH (show BoxC W w.heap.size [.string ds,.string dt,.int .i64 c0,.int .i64 c1,.int .i64 c2,.int .i64 c3,.slice a1 n1 a3,.slice a2 n2 a4,.bool op,.string ma,.slice g1 gn g2,.int .i64 no,.bool on,.int .i64 nd,.int .i64 mn,.slice r1 rn r2] by rw [hW];exact BoxC.made _ _ _)
 have hmx : Tryz.prog.follows .mixedOrders = true:=by kernel_rfl
 have HM:=qH hm
 clear hm
 cases op with
 | false =>
  go_enter Tryz.func56,Tryz.ntmps56
  go_upto_region 1 with fail
  rw [<- hW]
  clear hW
  have y8:=HX0.out.cell 8 _ rfl
  have y9:=HX0.out.cell 9 _ rfl
  go_wp2_with fail
  go_ret
  exact ⟨ret_bool (by unfold masterB;rw [if_neg (by decide)];exact empty_eqb ma),HB0.out⟩
 | true =>
  go_enter Tryz.func56,Tryz.ntmps56
  go_upto_region 1 with fail
  rw [<- hW]
  clear hW
  have y8:=HX0.out.cell 8 _ rfl
  go_upto_region 3 with fail
  clear y8
  have HS0:=qH (show BoxC W.drew w.heap.size [.string ds,.string dt,.int .i64 c0,.int .i64 c1,.int .i64 c2,.int .i64 c3,.slice a1 n1 a3,.slice a2 n2 a4,.bool true,.string ma,.slice g1 gn g2,.int .i64 no,.bool on,.int .i64 nd,.int .i64 mn,.slice r1 rn r2] /\ Below w.heap.size w W.drew from ⟨HX0.out.below (Below.refl _ _).drew,HB0.out.drew⟩)
  obtain ⟨z,hz⟩ : ∃ z,z = !zeroC c0 c1 c2 c3:=⟨_,rfl⟩
  have hne : ∀ W : World,(binOp .neq 39 (.agg #[.int .i64 c0,.int .i64 c1,.int .i64 c2,.int .i64 c3]) (.agg #[.int .i64 0,.int .i64 0,.int .i64 0,.int .i64 0])).run Tryz.prog W = .ok (.bool z) W:=fun W => by rw [hz];exact neq_confV c0 c1 c2 c3 W
  have HZ:=qH hz
  clear hz
  refine HeldZ.region hmx (fun u => BoxC u w.heap.size [.string ds,.string dt,.int .i64 c0,.int .i64 c1,.int .i64 c2,.int .i64 c3,.slice a1 n1 a3,.slice a2 n2 a4,.bool true,.string ma,.slice g1 gn g2,.int .i64 no,.bool on,.int .i64 nd,.int .i64 mn,.slice r1 rn r2] /\ Below w.heap.size w u) (by kernel_rfl) HS0.out ?_
  iterate 2 (with_reducible refine HeldZ.value (v:=.pointer (some ⟨w.heap.size,2,none⟩)) rfl (fun u hu => by go_simp) ?_; simp only [pS, List.set])
  with_reducible refine HeldZ.value (v:=.agg #[.int .i64 c0,.int .i64 c1,.int .i64 c2,.int .i64 c3]) rfl (fun u hu => by have y2:=hu.1.cell 2 _ rfl;have y3:=hu.1.cell 3 _ rfl;have y4:=hu.1.cell 4 _ rfl;have y5:=hu.1.cell 5 _ rfl;go_simp) ?_
  simp only [pS,List.set]
  with_reducible refine HeldZ.value (v:=.agg #[.int .i64 0,.int .i64 0,.int .i64 0,.int .i64 0]) rfl (fun u hu => by go_simp) ?_
  simp only [pS,List.set]
  iterate 2 (with_reducible refine HeldZ.value (v:=.bool z) rfl (fun u hu => by go_simp) ?_; simp only [pS, List.set])
  clear hne
  cases z with
  | true =>
   with_reducible refine HeldZ.value (v:=.pointer (some ⟨w.heap.size,9,none⟩)) rfl (fun u hu => by go_simp) ?_
   simp only [pS,List.set]
   with_reducible refine HeldZ.value (v:=.string ma) rfl (fun u hu => by have y9:=hu.1.cell 9 _ rfl;go_simp) ?_
   simp only [pS,List.set]
   with_reducible refine HeldZ.call (v:=.int .i64 (checkI ma)) (f:=26) (args:=#[.string ma]) rfl (fun u hu => by go_simp) (fun u hu => Calls.mono (implCheckOf_any ma u HM.out) (by rintro e u2 ⟨rfl,hb⟩;exact ⟨rfl,⟨hu.1.below hb,hu.2.trans (hb.mono hu.2.size)⟩⟩)) ?_
   simp only [pS,List.set]
   iterate 2 (with_reducible refine HeldZ.value (v:=.pointer (some ⟨w.heap.size,2,none⟩)) rfl (fun u hu => by go_simp) ?_; simp only [pS, List.set])
   with_reducible refine HeldZ.value (v:=.pointer (some ⟨w.heap.size,5,none⟩)) rfl (fun u hu => by go_simp) ?_
   simp only [pS,List.set]
   with_reducible refine HeldZ.value (v:=.int .i64 c3) rfl (fun u hu => by have y5:=hu.1.cell 5 _ rfl;go_simp) ?_
   simp only [pS,List.set]
   iterate 3 (with_reducible refine HeldZ.value (v:=.bool (checkI ma == c3)) rfl (fun u hu => by go_simp) ?_; simp only [pS, List.set])
   refine HeldZ.nil ?_
   intro u hu
   go_wp2_with fail
   go_ret
   exact ⟨ret_bool (by unfold masterB;rw [if_pos rfl,<- HZ.out];simp [BEq.beq]),hu.2⟩
  | false =>
   iterate 8 (with_reducible refine HeldZ.no rfl ?_; simp only [pS, List.set])
   iterate 2 (with_reducible refine HeldZ.value (v:=.bool false) rfl (fun u hu => by go_simp) ?_; simp only [pS, List.set])
   refine HeldZ.nil ?_
   intro u hu
   go_wp2_with fail
   go_ret
   exact ⟨ret_bool (by unfold masterB;rw [if_pos rfl,<- HZ.out];rfl),hu.2⟩
theorem gotRight_any (ds dt : ByteArray) (c0 c1 c2 c3 : Int) (op : Bool) (ma : ByteArray) (no : Int) (on : Bool) (nd mn : Int) (a1 : Option Addr) (n1 a3 : Nat) (a2 : Option Addr) (n2 a4 : Nat) (g1 : Option Addr) (gn g2 : Nat) (r1 : Option Addr) (rn r2 : Nat) (w : World) (gs : List Ev) (h : ER w g1 gn g2 gs) (hn : gn <= 1048576) (ht : ∀ t,t < gn -> (gs.getD t evD).t.size <= maxLen) :
 Calls Tryz.prog 57 #[.agg #[.string ds,.string dt,.int .i64 c0,.int .i64 c1,.int .i64 c2,.int .i64 c3,.slice a1 n1 a3,.slice a2 n2 a4,.bool op,.string ma,.slice g1 gn g2,.int .i64 no,.bool on,.int .i64 nd,.int .i64 mn,.slice r1 rn r2]] w fun e w' => e = .returned (.bool (gotB op c0 c1 c2 gs)) /\ Below w.heap.size w w':=by
 obtain ⟨W,hW⟩ : ∃ W,W = w.alloc (.cells #[.string ds,.string dt,.int .i64 c0,.int .i64 c1,.int .i64 c2,.int .i64 c3,.slice a1 n1 a3,.slice a2 n2 a4,.bool op,.string ma,.slice g1 gn g2,.int .i64 no,.bool on,.int .i64 nd,.int .i64 mn,.slice r1 rn r2] 48):=⟨_,rfl⟩
 have HB0:=qH (show Below w.heap.size w W by rw [hW];exact (Below.refl _ _).alloc (Nat.le_refl _) _)
 have HX0:=qH (show BoxC W w.heap.size [.string ds,.string dt,.int .i64 c0,.int .i64 c1,.int .i64 c2,.int .i64 c3,.slice a1 n1 a3,.slice a2 n2 a4,.bool op,.string ma,.slice g1 gn g2,.int .i64 no,.bool on,.int .i64 nd,.int .i64 mn,.slice r1 rn r2] by rw [hW];exact BoxC.made _ _ _)
 have HL:=qH h.len
 have HE:=qH h
 have HT:=qH ht
 clear h ht
 by_cases h0 : gn = 0
 · have HF : Hid (gotB op c0 c1 c2 gs = true):=qH (by unfold gotB;rw [HL.out,decide_eq_true h0,Bool.true_or])
   subst h0
   go_enter Tryz.func57,Tryz.ntmps57
   go_upto_region 1 with fail
   rw [<- hW]
   clear hW
   have y10:=HX0.out.cell 10 _ rfl
   go_wp2_with fail
   go_ret
   exact ⟨ret_bool HF.out.symm,HB0.out⟩
 · have hk0 : ((gn : Int) == 0) = false:=by rw [beq_eq_false_iff_ne];omega
   cases op with
   | true =>
    have HF : Hid (gotB true c0 c1 c2 gs = false):=qH (by unfold gotB;rw [HL.out,decide_eq_false h0];rfl)
    clear h0
    go_enter Tryz.func57,Tryz.ntmps57
    go_upto_region 1 with fail
    rw [<- hW]
    clear hW
    have y10:=HX0.out.cell 10 _ rfl
    have y8:=HX0.out.cell 8 _ rfl
    go_wp2_with fail
    go_ret
    exact ⟨ret_bool HF.out.symm,HB0.out⟩
   | false =>
    have HF : Hid (gotB false c0 c1 c2 gs = fitB c0 c1 c2 gs):=qH (by unfold gotB;rw [HL.out,decide_eq_false h0];simp)
    clear h0
    go_enter Tryz.func57,Tryz.ntmps57
    go_upto_region 1 with fail
    rw [<- hW]
    clear hW
    have y10:=HX0.out.cell 10 _ rfl
    have y8:=HX0.out.cell 8 _ rfl
    have y2:=HX0.out.cell 2 _ rfl
    have y3:=HX0.out.cell 3 _ rfl
    have y4:=HX0.out.cell 4 _ rfl
    have y5:=HX0.out.cell 5 _ rfl
    go_wp2_with (go_at_call 86;refine (envsFit_any c0 c1 c2 c3 g1 gn g2 gs _ (SR.below HE.out HB0.out) hn HT.out).mono ?_;rintro e w5 ⟨rfl,hb⟩;have HB5:=qH (HB0.out.trans (hb.mono HB0.out.size));clear hb y2 y3 y4 y5 y8 y10)
    go_ret
    exact ⟨ret_bool HF.out.symm,HB5.out⟩
theorem rekeyRight_any (ds dt : ByteArray) (c0 c1 c2 c3 : Int) (op : Bool) (ma : ByteArray) (no : Int) (on : Bool) (nd mn : Int) (a1 : Option Addr) (n1 a3 : Nat) (a2 : Option Addr) (n2 a4 : Nat) (g1 : Option Addr) (gn g2 : Nat) (r1 : Option Addr) (rn r2 : Nat) (w : World) (rs : List Ev) (h : ER w r1 rn r2 rs) (hn : rn <= 1048576) (ht : ∀ t,t < rn -> (rs.getD t evD).t.size <= maxLen) :
 Calls Tryz.prog 58 #[.agg #[.string ds,.string dt,.int .i64 c0,.int .i64 c1,.int .i64 c2,.int .i64 c3,.slice a1 n1 a3,.slice a2 n2 a4,.bool op,.string ma,.slice g1 gn g2,.int .i64 no,.bool on,.int .i64 nd,.int .i64 mn,.slice r1 rn r2]] w fun e w' => e = .returned (.bool (rekeyB op on nd mn c0 c1 c2 rs)) /\ Below w.heap.size w w':=by
 obtain ⟨W,hW⟩ : ∃ W,W = w.alloc (.cells #[.string ds,.string dt,.int .i64 c0,.int .i64 c1,.int .i64 c2,.int .i64 c3,.slice a1 n1 a3,.slice a2 n2 a4,.bool op,.string ma,.slice g1 gn g2,.int .i64 no,.bool on,.int .i64 nd,.int .i64 mn,.slice r1 rn r2] 48):=⟨_,rfl⟩
 have HB0:=qH (show Below w.heap.size w W by rw [hW];exact (Below.refl _ _).alloc (Nat.le_refl _) _)
 have HX0:=qH (show BoxC W w.heap.size [.string ds,.string dt,.int .i64 c0,.int .i64 c1,.int .i64 c2,.int .i64 c3,.slice a1 n1 a3,.slice a2 n2 a4,.bool op,.string ma,.slice g1 gn g2,.int .i64 no,.bool on,.int .i64 nd,.int .i64 mn,.slice r1 rn r2] by rw [hW];exact BoxC.made _ _ _)
 have HL:=qH h.len
 have HE:=qH h
 have HT:=qH ht
 clear h ht
 obtain ⟨V,hV⟩ : ∃ V,V = W.alloc (.cells #[.bool on,.int .i64 nd,.int .i64 mn,.slice r1 rn r2] 46):=⟨_,rfl⟩
 have HBW:=qH (show Below W.heap.size W V by rw [hV];exact (Below.refl _ _).alloc (Nat.le_refl _) _)
 have HV0:=qH (show BoxC V W.heap.size [.bool on,.int .i64 nd,.int .i64 mn,.slice r1 rn r2] by rw [hV];exact BoxC.made _ _ _)
 have HX1:=qH (HX0.out.below HBW.out)
 have HB1:=qH (HB0.out.trans (HBW.out.mono HB0.out.size))
 go_enter Tryz.func58,Tryz.ntmps58
 go_upto_region 1 with fail
 rw [<- hW]
 clear hW
 have y12:=HX0.out.cell 12 _ rfl
 have y13:=HX0.out.cell 13 _ rfl
 have y14:=HX0.out.cell 14 _ rfl
 have y15:=HX0.out.cell 15 _ rfl
 go_upto_region 2 with fail
 rw [<- hV]
 clear hV y12 y13 y14 y15 HX0 HB0 HBW
 have z0:=HV0.out.cell 0 _ rfl
 have z1:=HV0.out.cell 1 _ rfl
 have z2:=HV0.out.cell 2 _ rfl
 have z3:=HV0.out.cell 3 _ rfl
 cases on with
 | false =>
  by_cases k0 : nd = 0
  · by_cases k1 : mn = 0
    · subst k0 k1
      go_wp2_with fail
      go_ret
      exact ⟨ret_bool (by unfold rekeyB;rw [if_neg (by decide),HL.out];by_cases hr : rn = 0 <;> simp [hr]),HB1.out⟩
    · have kb : (mn == 0) = false:=by simp [k1]
      have HF : Hid (rekeyB op false nd mn c0 c1 c2 rs = false):=qH (by unfold rekeyB;rw [if_neg (by decide)];exact decide_eq_false (fun e => k1 e.2.1))
      subst k0
      clear k1
      go_wp2_with fail
      go_ret
      exact ⟨ret_bool HF.out.symm,HB1.out⟩
  · have kb : (nd == 0) = false:=by simp [k0]
    have HF : Hid (rekeyB op false nd mn c0 c1 c2 rs = false):=qH (by unfold rekeyB;rw [if_neg (by decide)];exact decide_eq_false (fun e => k0 e.1))
    clear k0
    go_wp2_with fail
    go_ret
    exact ⟨ret_bool HF.out.symm,HB1.out⟩
 | true =>
  have y8:=HX1.out.cell 8 _ rfl
  cases op with
  | false =>
   go_wp2_with fail
   go_ret
   exact ⟨ret_bool (by unfold rekeyB;rw [if_pos rfl];rfl),HB1.out⟩
  | true =>
   have y2:=HX1.out.cell 2 _ rfl
   have y3:=HX1.out.cell 3 _ rfl
   have y4:=HX1.out.cell 4 _ rfl
   have y5:=HX1.out.cell 5 _ rfl
   cases hm : manyB nd mn
   · go_wp2_with (go_at_call 87;refine (manyRight_any nd mn _).mono ?_;rintro e w1 ⟨rfl,rfl⟩;rw [hm])
     go_ret
     exact ⟨ret_bool (by unfold rekeyB;rw [if_pos rfl,hm];rfl),HB1.out⟩
   · have HMB:=qH hm
     go_wp2_with (first | (go_at_call 87;refine (manyRight_any nd mn _).mono ?_;rintro e w1 ⟨rfl,rfl⟩;rw [HMB.out]) | (go_at_call 86;refine (envsFit_any c0 c1 c2 c3 r1 rn r2 rs _ (SR.below HE.out HB1.out) hn HT.out).mono ?_;rintro e w5 ⟨rfl,hb⟩;have HB5:=qH (HB1.out.trans (hb.mono HB1.out.size));clear hb y2 y3 y4 y5 y8 z0 z1 z2 z3))
     go_ret
     exact ⟨ret_bool (by unfold rekeyB;rw [if_pos rfl,HMB.out];simp),HB5.out⟩
end Go.Proofs.YthkbcjnbmciolaaGreatDoor
