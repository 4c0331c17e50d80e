/- Used by the law. -/
import Derived.Deep.RegionWith
import Derived.Lib.Strings
import Derived.Test.YtbgoldeopmlbnaaGreatDoorQB06
set_option maxRecDepth 100000
set_option maxHeartbeats 16000000
namespace Go.Proofs.YtbgoldeopmlbnaaGreatDoor
open Go.RowKit G MGet
set_option linter.unusedVariables false
def textOutV (t : ByteArray × Int × Int) : Value:=.agg #[.string t.1,.int .i64 t.2.1,.int .i64 t.2.2]
theorem ret_text {t : ByteArray × Int × Int} {a : ByteArray} {b c : Int} (h : t = (a,b,c)) : Ending.returned (.agg #[.string a,.int .i64 b,.int .i64 c]) = .returned (textOutV t):=by rw [h];rfl
theorem txt_zero (s : ByteArray) (j : Nat) (hc : (txtS s j).2.2 ≠ 0) : txtS s j = (⟨#[]⟩,0,(txtS s j).2.2):=by
 unfold txtS at *
 split
 · rfl
 · split
   · rfl
   · split
     · rfl
     · rename_i h1 h2 h3
       rw [if_neg h1,if_neg h2,if_neg h3] at hc
       exact absurd rfl hc
theorem implGetText_any (s : ByteArray) (a : Int) (w : World) (ha : (Lit.int .i64 a).wf = true) (hs : s.size <= maxLen) (hg : ET w) :
 Calls Tryz.prog 37 #[.string s,.int .i64 a] w fun e w' => e = .returned (textOutV (getT s a)) /\ Below w.heap.size w w':=by
 obtain ⟨g0,g1⟩:=bounds_i64 ha
 by_cases hl : 8000 < s.size
 · go_enter Tryz.func37,Tryz.ntmps37
   go_wp2_with fail
   refine (placeFault_any _ _ _ hs).mono ?_
   rintro e w1 ⟨rfl,rfl⟩
   rw [faultI_size hl]
   go_wp2_with fail
   exact bodyPost_ret (v:=.agg #[.string ⟨#[]⟩,.int .i64 0,.int .i64 2]) (by simp [results,Tryz.results37,go_sem]) rfl ⟨ret_text (getT_size hl),(Below.refl _ _).alloc (Nat.le_refl _) _⟩
 · by_cases hn : a < 0
   · go_enter Tryz.func37,Tryz.ntmps37
     go_wp2_with fail
     refine (placeFault_any _ _ _ hs).mono ?_
     rintro e w1 ⟨rfl,rfl⟩
     rw [faultI_form hl hn]
     go_wp2_with fail
     exact bodyPost_ret (v:=.agg #[.string ⟨#[]⟩,.int .i64 0,.int .i64 1]) (by simp [results,Tryz.results37,go_sem]) rfl ⟨ret_text (getT_form hl hn),(Below.refl _ _).alloc (Nat.le_refl _) _⟩
   · obtain ⟨j,rfl⟩:=Int.eq_ofNat_of_zero_le (show 0 <= a by omega)
     have HG:=qH (getT_read (s:=s) (a:=j) hl)
     go_enter Tryz.func37,Tryz.ntmps37
     go_wp2_with fail
     refine (placeFault_any _ _ _ hs).mono ?_
     rintro e w1 ⟨rfl,rfl⟩
     rw [faultI_ok hl (by omega)]
     go_wp2_with fail
     refine (readText_any s j _ g1 (by omega)).mono ?_
     rintro e w1 ⟨rfl,hb1⟩
     have hg1:=qH ((hg.alloc (.cells #[.string ⟨#[]⟩,.int .i64 0,.int .i64 0] 69)).below hb1)
     obtain ⟨hc1,hf1⟩:=bcell hb1
     have hz1 : w.heap.size < w1.heap.size:=by have:=hb1.size;simp at this;omega
     by_cases hc : (txtS s j).2.2 = 0
     · obtain ⟨⟨n,p,c⟩,ht⟩ : ∃ t,t = txtS s j:=⟨_,rfl⟩
       rw [<- ht] at hc HG ⊢
       obtain rfl : c = 0:=hc
       rw [textV_ok]
       clear ht
       go_wp2_with fail
       refine (codeOf_nil _).mono ?_
       rintro e w2 ⟨rfl,rfl⟩
       go_wp2_with fail
       exact bodyPost_ret (v:=.agg #[.string n,.int .i64 p,.int .i64 0]) (by simp [results,Tryz.results37,go_sem,hc1]) rfl ⟨ret_text HG.out,by
        have h : Below w.heap.size w w1:=((Below.refl _ _).alloc (Nat.le_refl _) _).trans (hb1.mono (by simp))
        exact ((h.setCell (Nat.le_refl _) _).setCell (Nat.le_refl _) _).setCell (Nat.le_refl _) _⟩
     · have HZ:=qH (txt_zero s j hc)
       obtain ⟨c,hcc⟩ : ∃ c,c = (txtS s j).2.2:=⟨_,rfl⟩
       rw [<- hcc] at hc HZ
       clear hcc
       rw [HZ.out,textV_err hc]
       unfold errV
       go_wp2_with fail
       refine (codeOf_bad _ _ hg1.out).mono ?_
       rintro e w2 ⟨rfl,hb2⟩
       obtain ⟨hc2,hf2⟩:=bcell hb2
       go_wp2_with fail
       exact bodyPost_ret (v:=.agg #[.string ⟨#[]⟩,.int .i64 0,.int .i64 c]) (by simp [results,Tryz.results37,go_sem,hc1,hz1,hc2]) rfl ⟨ret_text (HG.out.trans HZ.out),by
        have h : Below w.heap.size w w2:=(((Below.refl _ _).alloc (Nat.le_refl _) _).trans (hb1.mono (by simp))).trans (hb2.mono (Nat.le_of_lt hz1))
        exact ((h.setCell (Nat.le_refl _) _).setCell (Nat.le_refl _) _).setCell (Nat.le_refl _) _⟩
theorem specGetText_any (s : ByteArray) (a : Int) (w : World) (ha : (Lit.int .i64 a).wf = true) (hs : s.size <= maxLen) :
 Calls Tryz.prog 39 #[.string s,.int .i64 a] w fun e w' => e = .returned (textOutV (getT s a)) /\ Below w.heap.size w w':=by
 obtain ⟨g0,g1⟩:=bounds_i64 ha
 by_cases hl : 8000 < s.size
 · go_enter Tryz.func39,Tryz.ntmps39
   go_wp2_with fail
   refine (specGetNum_any s a _ ha hs).mono ?_
   rintro e w1 ⟨rfl,hb1⟩
   obtain ⟨hc1,hf1⟩:=bcell hb1
   have hz1 : w.heap.size < w1.heap.size:=by have:=hb1.size;simp at this;omega
   rw [getS_size hl]
   unfold numOutV
   go_wp2_with fail
   exact bodyPost_ret (v:=.agg #[.string ⟨#[]⟩,.int .i64 0,.int .i64 2]) (by simp [results,Tryz.results39,go_sem,hc1,hz1]) rfl ⟨ret_text (getT_size hl),by
    have h : Below w.heap.size w w1:=((Below.refl _ _).alloc (Nat.le_refl _) _).trans (hb1.mono (by simp))
    repeat' (first | exact h | refine Below.setCell ?_ (by first | exact Nat.le_refl _ | (simp;done) | (simp;omega)) _ | refine Below.alloc ?_ (by first | exact Nat.le_of_lt hz1 | (simp;omega)) _ | refine Below.drew ?_ | refine below_drewN ?_ _)⟩
 · by_cases hn : a < 0
   · go_enter Tryz.func39,Tryz.ntmps39
     go_wp2_with fail
     refine (specGetNum_any s _ _ ha hs).mono ?_
     rintro e w1 ⟨rfl,hb1⟩
     obtain ⟨hc1,hf1⟩:=bcell hb1
     have hz1 : w.heap.size < w1.heap.size:=by have:=hb1.size;simp at this;omega
     rw [getS_form hl hn]
     unfold numOutV
     go_wp2_with fail
     exact bodyPost_ret (v:=.agg #[.string ⟨#[]⟩,.int .i64 0,.int .i64 1]) (by simp [results,Tryz.results39,go_sem,hc1,hz1]) rfl ⟨ret_text (getT_form hl hn),by
      have h : Below w.heap.size w w1:=((Below.refl _ _).alloc (Nat.le_refl _) _).trans (hb1.mono (by simp))
      repeat' (first | exact h | refine Below.setCell ?_ (by first | exact Nat.le_refl _ | (simp;done) | (simp;omega)) _ | refine Below.alloc ?_ (by first | exact Nat.le_of_lt hz1 | (simp;omega)) _ | refine Below.drew ?_ | refine below_drewN ?_ _)⟩
   · obtain ⟨j,rfl⟩:=Int.eq_ofNat_of_zero_le (show 0 <= a by omega)
     have HG:=qH (getS_read (s:=s) (a:=j) hl)
     have HGT:=qH (getT_read (s:=s) (a:=j) hl)
     have hpl:=rd_place s j 10 0 0
     have HZ:=qH (rd_zero s j 10 0 0)
     obtain ⟨⟨n,p,c⟩,ht⟩ : ∃ t,t = rdS s j 10 0 0:=⟨_,rfl⟩
     have HT:=qH ht
     rw [<- ht] at hpl HZ
     simp only [] at hpl HZ
     by_cases hc : c = 0
     · subst hc
       obtain ⟨hp0,hp1⟩:=hpl rfl
       obtain ⟨p,rfl⟩:=Int.eq_ofNat_of_zero_le (show 0 <= p by omega)
       by_cases hnn : n < 0 ∨ 8000 < n
       · have HF:=qH (txt_form HT.out.symm hnn)
         clear hpl ht
         rcases hnn with hnn | hnn
         all_goals
          go_enter Tryz.func39,Tryz.ntmps39
          go_wp2_with fail
          refine (specGetNum_any s _ _ ha hs).mono ?_
          rintro e w1 ⟨rfl,hb1⟩
          obtain ⟨hc1,hf1⟩:=bcell hb1
          have hz1 : w.heap.size < w1.heap.size:=by have:=hb1.size;simp at this;omega
          rw [HG.out,<- HT.out]
          unfold numOutV
          go_wp2_with fail
          exact bodyPost_ret (v:=.agg #[.string ⟨#[]⟩,.int .i64 0,.int .i64 3]) (by simp [results,Tryz.results39,go_sem,hc1,hz1]) rfl ⟨ret_text (HGT.out.trans HF.out),by
           have h : Below w.heap.size w w1:=((Below.refl _ _).alloc (Nat.le_refl _) _).trans (hb1.mono (by simp))
           repeat' (first | exact h | refine Below.setCell ?_ (by first | exact Nat.le_refl _ | (simp;done) | (simp;omega)) _ | refine Below.alloc ?_ (by first | exact Nat.le_of_lt hz1 | (simp;omega)) _ | refine Below.drew ?_ | refine below_drewN ?_ _)⟩
       · obtain ⟨n,rfl⟩:=Int.eq_ofNat_of_zero_le (show 0 <= n by omega)
         have hn8 : n <= 8000:=by omega
         clear hpl ht hnn
         by_cases hsh : (s.size : Int) < p + n
         · have HF:=qH (txt_short HT.out.symm (by omega) hsh)
           go_enter Tryz.func39,Tryz.ntmps39
           go_wp2_with fail
           refine (specGetNum_any s _ _ ha hs).mono ?_
           rintro e w1 ⟨rfl,hb1⟩
           obtain ⟨hc1,hf1⟩:=bcell hb1
           have hz1 : w.heap.size < w1.heap.size:=by have:=hb1.size;simp at this;omega
           rw [HG.out,<- HT.out]
           unfold numOutV
           go_wp2_with fail
           exact bodyPost_ret (v:=.agg #[.string ⟨#[]⟩,.int .i64 0,.int .i64 4]) (by simp [results,Tryz.results39,go_sem,hc1,hz1]) rfl ⟨ret_text (HGT.out.trans HF.out),by
            have h : Below w.heap.size w w1:=((Below.refl _ _).alloc (Nat.le_refl _) _).trans (hb1.mono (by simp))
            repeat' (first | exact h | refine Below.setCell ?_ (by first | exact Nat.le_refl _ | (simp;done) | (simp;omega)) _ | refine Below.alloc ?_ (by first | exact Nat.le_of_lt hz1 | (simp;omega)) _ | refine Below.drew ?_ | refine below_drewN ?_ _)⟩
         · have hpn : p + n <= s.size:=by omega
           have HF:=qH (txt_ok HT.out.symm hn8 hpn)
           go_enter Tryz.func39,Tryz.ntmps39
           go_wp2_with fail
           refine (specGetNum_any s _ _ ha hs).mono ?_
           rintro e w1 ⟨rfl,hb1⟩
           obtain ⟨hc1,hf1⟩:=bcell hb1
           have hz1 : w.heap.size < w1.heap.size:=by have:=hb1.size;simp at this;omega
           rw [HG.out,<- HT.out]
           unfold numOutV
           have hsl:=fun W => run_cut_str (P:=Tryz.prog) W 9 Tryz.underlying9 s p n hpn
           generalize s.extract p (p + n) = x at hsl HF
           go_wp2_with fail
           go_region
           go_wp2_with fail
           exact bodyPost_ret (v:=.agg #[.string x,.int .i64 (p + n),.int .i64 0]) (by simp [results,Tryz.results39,go_sem,hc1,hz1]) rfl ⟨ret_text (HGT.out.trans HF.out),by
            have h : Below w.heap.size w w1:=((Below.refl _ _).alloc (Nat.le_refl _) _).trans (hb1.mono (by simp))
            repeat' (first | exact h | refine Below.setCell ?_ (by first | exact Nat.le_refl _ | (simp;done) | (simp;omega)) _ | refine Below.alloc ?_ (by first | exact Nat.le_of_lt hz1 | (simp;omega)) _ | refine Below.drew ?_ | refine below_drewN ?_ _)⟩
     · have HF:=qH (txt_err HT.out.symm hc)
       have HZ':=qH (HZ.out hc)
       clear hpl ht
       go_enter Tryz.func39,Tryz.ntmps39
       go_wp2_with fail
       refine (specGetNum_any s _ _ ha hs).mono ?_
       rintro e w1 ⟨rfl,hb1⟩
       obtain ⟨hc1,hf1⟩:=bcell hb1
       have hz1 : w.heap.size < w1.heap.size:=by have:=hb1.size;simp at this;omega
       rw [HG.out,<- HT.out,HZ'.out]
       unfold numOutV
       have hcb : (c != 0) = true:=by simp [hc]
       go_wp2_with fail
       exact bodyPost_ret (v:=.agg #[.string ⟨#[]⟩,.int .i64 0,.int .i64 c]) (by simp [results,Tryz.results39,go_sem,hc1,hz1]) rfl ⟨ret_text (HGT.out.trans HF.out),by
        have h : Below w.heap.size w w1:=((Below.refl _ _).alloc (Nat.le_refl _) _).trans (hb1.mono (by simp))
        repeat' (first | exact h | refine Below.setCell ?_ (by first | exact Nat.le_refl _ | (simp;done) | (simp;omega)) _ | refine Below.alloc ?_ (by first | exact Nat.le_of_lt hz1 | (simp;omega)) _ | refine Below.drew ?_ | refine below_drewN ?_ _)⟩
end Go.Proofs.YtbgoldeopmlbnaaGreatDoor
namespace Go.Proofs.YtbgoldeopmlbnaaGreatDoor
open Go.RowKit G MGet MCrc
set_option linter.unusedVariables false
theorem toList_inj {a b : ByteArray} (h : a.toList = b.toList) : a = b:=by
 rw [Lib.toList_data,Lib.toList_data] at h
 exact ByteArray.ext (Array.toList_inj.1 h)
def bodyS (s : ByteArray) : ByteArray:=s.extract 0 (s.size - 4)
def tailS (s : ByteArray) : ByteArray:=s.extract (s.size - 4) s.size
def unsS (s : ByteArray) : ByteArray × Int × Int:=if tailS s = crc4 (bodyS s) then (bodyS s,0,0) else (⟨#[]⟩,0,5)
def openS (s : ByteArray) : ByteArray × Int × Int :=
 if 8000 < s.size then (⟨#[]⟩,0,2) else if s.size < 4 then (⟨#[]⟩,0,4) else unsS s
theorem openS_size {s : ByteArray} (h : 8000 < s.size) : openS s = (⟨#[]⟩,0,2):=by unfold openS;rw [if_pos h]
theorem openS_short {s : ByteArray} (h : ¬ 8000 < s.size) (h4 : s.size < 4) : openS s = (⟨#[]⟩,0,4):=by unfold openS;rw [if_neg h,if_pos h4]
theorem openS_read {s : ByteArray} (h : ¬ 8000 < s.size) (h4 : ¬ s.size < 4) : openS s = unsS s:=by unfold openS;rw [if_neg h,if_neg h4]
theorem unsS_ok {s : ByteArray} (h : tailS s = crc4 (bodyS s)) : unsS s = (bodyS s,0,0):=by unfold unsS;rw [if_pos h]
theorem unsS_sum {s : ByteArray} (h : ¬ tailS s = crc4 (bodyS s)) : unsS s = (⟨#[]⟩,0,5):=by unfold unsS;rw [if_neg h]
def sealedV (t : ByteArray × Int × Int) : Value:=if t.2.2 = 0 then .tuple #[.string t.1,.nilIface] else .tuple #[.string ⟨#[]⟩,errV t.2.2]
theorem sealedV_ok (s : ByteArray) (a : Int) : sealedV (s,a,0) = .tuple #[.string s,.nilIface]:=by simp [sealedV]
theorem sealedV_err {c : Int} (h : c ≠ 0) : sealedV (⟨#[]⟩,0,c) = .tuple #[.string ⟨#[]⟩,errV c]:=by simp [sealedV,h]
theorem readSealed_any (s : ByteArray) (w : World) (hs : s.size <= 8000) :
 Calls Tryz.prog 111 #[.string s] w fun e w' => e = .returned (sealedV (openS s)) /\ Below w.heap.size w w':=by
 by_cases h4 : s.size < 4
 · have HU:=qH (openS_short (by omega) h4)
   go_enter Tryz.func111,Tryz.ntmps111
   go_wp2_with fail
   go_ret2
   exact ⟨by rw [HU.out,sealedV_err (by decide)];rfl,Below.refl _ _⟩
 · have HU:=qH (openS_read (s:=s) (by omega) h4)
   have hs4 : 4 <= s.size:=by omega
   have hsb : (s.extract 0 (s.size - 4)).size <= 8000:=by simp [ByteArray.size_extract];omega
   have HSB:=qH hsb;clear hsb
   by_cases ht : tailS s = crc4 (bodyS s)
   · have HF:=qH (unsS_ok ht)
     have hb0 : ((s.extract (s.size - 4) s.size).toList == (strOfNums (fourL (crcI (s.extract 0 (s.size - 4))))).toList) = true:=by rw [beq_iff_eq];exact congrArg ByteArray.toList ht
     clear ht
     go_enter Tryz.func111,Tryz.ntmps111
     go_wp2_with fail
     go_region_with (go_at_call 65;refine (sumOf_any _ _ (Nat.le_trans HSB.out (by unfold maxLen;omega))).mono ?_;rintro e w1 ⟨rfl,hb1⟩)
     clear hb0
     go_wp2_with fail
     refine (joined_one _ _ _ (Nat.le_trans HSB.out (by omega))).mono ?_
     rintro e w2 ⟨rfl,hb2⟩
     go_wp2_with fail
     go_ret2
     have h1 : Below w.heap.size w w1:=((Below.refl _ _).drew).trans hb1
     exact ⟨by rw [HU.out,HF.out,sealedV_ok];rfl,h1.trans (hb2.mono h1.size)⟩
   · have HF:=qH (unsS_sum ht)
     have hb0 : ((s.extract (s.size - 4) s.size).toList == (strOfNums (fourL (crcI (s.extract 0 (s.size - 4))))).toList) = false:=by rw [beq_eq_false_iff_ne];exact fun h => ht (toList_inj h)
     clear ht
     go_enter Tryz.func111,Tryz.ntmps111
     go_wp2_with fail
     go_region_with (go_at_call 65;refine (sumOf_any _ _ (Nat.le_trans HSB.out (by unfold maxLen;omega))).mono ?_;rintro e w1 ⟨rfl,hb1⟩)
     clear hb0
     go_wp2_with fail
     go_ret2
     exact ⟨by rw [HU.out,HF.out,sealedV_err (by decide)];rfl,((Below.refl _ _).drew).trans hb1⟩
theorem openS_zero (s : ByteArray) (hc : (openS s).2.2 ≠ 0) : openS s = (⟨#[]⟩,0,(openS s).2.2):=by
 unfold openS unsS at *
 split
 · rfl
 · split
   · rfl
   · split
     · rename_i h1 h2 h3
       rw [if_neg h1,if_neg h2,if_pos h3] at hc
       exact absurd rfl hc
     · rfl
theorem openS_at (s : ByteArray) : (openS s).2.1 = 0:=by
 unfold openS unsS
 split
 · rfl
 · split
   · rfl
   · split <;> rfl
theorem implUnseal_any (s : ByteArray) (w : World) (hs : s.size <= maxLen) (hg : ET w) :
 Calls Tryz.prog 95 #[.string s] w fun e w' => e = .returned (textOutV (openS s)) /\ Below w.heap.size w w':=by
 by_cases hl : 8000 < s.size
 · go_enter Tryz.func95,Tryz.ntmps95
   go_wp2_with fail
   refine (tooLong_any _ _ hs).mono ?_
   rintro e w1 ⟨rfl,rfl⟩
   go_wp2_with fail
   exact bodyPost_ret (v:=.agg #[.string ⟨#[]⟩,.int .i64 0,.int .i64 2]) (by simp [results,Tryz.results95,go_sem]) rfl ⟨ret_text (openS_size hl),(Below.refl _ _).alloc (Nat.le_refl _) _⟩
 · go_enter Tryz.func95,Tryz.ntmps95
   go_wp2_with fail
   refine (tooLong_any _ _ hs).mono ?_
   rintro e w1 ⟨rfl,rfl⟩
   go_wp2_with fail
   refine (readSealed_any s _ (by omega)).mono ?_
   rintro e w1 ⟨rfl,hb1⟩
   have hg1:=qH ((hg.alloc (.cells #[.string ⟨#[]⟩,.int .i64 0,.int .i64 0] 69)).below hb1)
   obtain ⟨hc1,hf1⟩:=bcell hb1
   have hz1 : w.heap.size < w1.heap.size:=by have:=hb1.size;simp at this;omega
   have HAT:=qH (openS_at s)
   have HZ:=qH (openS_zero s)
   obtain ⟨⟨x,p,c⟩,ht⟩ : ∃ t,t = openS s:=⟨_,rfl⟩
   have HT:=qH ht
   rw [<- ht] at HAT HZ ⊢
   obtain rfl : p = 0:=HAT.out
   by_cases hc : c = 0
   · subst hc
     rw [sealedV_ok]
     clear ht
     go_wp2_with fail
     refine (codeOf_nil _).mono ?_
     rintro e w2 ⟨rfl,rfl⟩
     go_wp2_with fail
     exact bodyPost_ret (v:=.agg #[.string x,.int .i64 0,.int .i64 0]) (by simp [results,Tryz.results95,go_sem,hc1]) rfl ⟨ret_text HT.out.symm,by
     have h : Below w.heap.size w w1:=((Below.refl _ _).alloc (Nat.le_refl _) _).trans (hb1.mono (by simp))
     repeat' (first | exact h | refine Below.setCell ?_ (by first | exact Nat.le_refl _ | (simp;done) | (simp;omega)) _ | refine Below.alloc ?_ (by first | exact Nat.le_of_lt hz1 | (simp;omega)) _ | refine Below.drew ?_ | refine below_drewN ?_ _)⟩
   · have HZ':=qH (HZ.out hc)
     rw [HZ'.out,sealedV_err hc]
     unfold errV
     clear ht
     go_wp2_with fail
     refine (codeOf_bad _ _ hg1.out).mono ?_
     rintro e w2 ⟨rfl,hb2⟩
     obtain ⟨hc2,hf2⟩:=bcell hb2
     go_wp2_with fail
     exact bodyPost_ret (v:=.agg #[.string ⟨#[]⟩,.int .i64 0,.int .i64 c]) (by simp [results,Tryz.results95,go_sem,hc1,hz1,hc2]) rfl ⟨ret_text (HT.out.symm.trans HZ'.out),by
      have h : Below w.heap.size w w2:=(((Below.refl _ _).alloc (Nat.le_refl _) _).trans (hb1.mono (by simp))).trans (hb2.mono (Nat.le_of_lt hz1))
      exact ((h.setCell (Nat.le_refl _) _).setCell (Nat.le_refl _) _).setCell (Nat.le_refl _) _⟩
theorem specUnseal_yes (s : ByteArray) (w : World) (hl : s.size <= 8000) (hs4 : 4 <= s.size) (ht : tailS s = crc4 (bodyS s)) :
 Calls Tryz.prog 40 #[.string s] w fun e w' => e = .returned (textOutV (openS s)) /\ Below w.heap.size w w':=by
 have HF:=qH ((openS_read (by omega) (by omega)).trans (unsS_ok ht))
 have hsb : (s.extract 0 (s.size - 4)).size <= 8000:=by simp [ByteArray.size_extract];omega
 have HCI:=qH (crcI_yes hsb)
 have hb0 : ((strOfNums (fourL (crcOn 0 (s.extract 0 (s.size - 4))))).toList == (s.extract (s.size - 4) s.size).toList) = true:=by rw [<- HCI.out,beq_iff_eq];exact (congrArg ByteArray.toList ht).symm
 clear ht
 have HSM : Hid ((s.extract 0 (s.size - 4)).size <= maxLen):=Nat.le_trans hsb (by unfold maxLen;omega)
 clear hsb
 have hw0 : (0 : Int) <= (s.size : Int) - 4:=by omega
 have hw1 : ((s.size : Int) - 4).toNat = s.size - 4:=by omega
 have hw : IntKind.i64.wrap ((s.size : Int) - 4) = (s.size : Int) - 4:=IntWalk.i64_in _ (by omega)
 go_enter Tryz.func40,Tryz.ntmps40
 go_wp2_with fail
 go_region_with (first
  | (go_at_call 77;refine (l01Crc_any _ _ _ (by decide) (by decide) HSM.out).mono ?_;rintro e w1 ⟨rfl,rfl⟩)
  | (go_at_call 76;refine (l01Four_any _ _ (crcOn_range _ _).1 (crcOn_range _ _).2).mono ?_;rintro e w1 ⟨rfl,hb1⟩))
 all_goals clear hb0 hw hw0 hw1
 all_goals
  obtain ⟨hc1,hf1⟩:=bcell hb1
  have hz1 : w.heap.size < w1.heap.size:=by have:=hb1.size;simp at this;omega
  go_wp2_with fail
  exact bodyPost_ret (v:=.agg #[.string (s.extract 0 (s.size - 4)),.int .i64 0,.int .i64 0]) (by simp [results,Tryz.results40,go_sem,hc1]) rfl ⟨ret_text HF.out,(by
   have h : Below w.heap.size w w1:=by first | exact ((Below.refl _ _).alloc (Nat.le_refl _) _).trans (hb1.mono (by simp)) | exact ((Below.refl _ _).alloc (Nat.le_refl _) _).drew.trans (hb1.mono (by simp))
   repeat' (first | exact h | refine Below.setCell ?_ (by first | exact Nat.le_refl _ | (simp;done) | (simp;omega)) _ | refine Below.drew ?_ | refine below_drewN ?_ _))⟩
theorem specUnseal_no (s : ByteArray) (w : World) (hl : s.size <= 8000) (hs4 : 4 <= s.size) (ht : ¬ tailS s = crc4 (bodyS s)) :
 Calls Tryz.prog 40 #[.string s] w fun e w' => e = .returned (textOutV (openS s)) /\ Below w.heap.size w w':=by
 have HF:=qH ((openS_read (by omega) (by omega)).trans (unsS_sum ht))
 have hsb : (s.extract 0 (s.size - 4)).size <= 8000:=by simp [ByteArray.size_extract];omega
 have HCI:=qH (crcI_yes hsb)
 have hb0 : ((strOfNums (fourL (crcOn 0 (s.extract 0 (s.size - 4))))).toList == (s.extract (s.size - 4) s.size).toList) = false:=by rw [<- HCI.out,beq_eq_false_iff_ne];exact fun h => ht (toList_inj h).symm
 clear ht
 have HSM : Hid ((s.extract 0 (s.size - 4)).size <= maxLen):=Nat.le_trans hsb (by unfold maxLen;omega)
 clear hsb
 have hw0 : (0 : Int) <= (s.size : Int) - 4:=by omega
 have hw1 : ((s.size : Int) - 4).toNat = s.size - 4:=by omega
 have hw : IntKind.i64.wrap ((s.size : Int) - 4) = (s.size : Int) - 4:=IntWalk.i64_in _ (by omega)
 go_enter Tryz.func40,Tryz.ntmps40
 go_wp2_with fail
 go_region_with (first
  | (go_at_call 77;refine (l01Crc_any _ _ _ (by decide) (by decide) HSM.out).mono ?_;rintro e w1 ⟨rfl,rfl⟩)
  | (go_at_call 76;refine (l01Four_any _ _ (crcOn_range _ _).1 (crcOn_range _ _).2).mono ?_;rintro e w1 ⟨rfl,hb1⟩))
 all_goals clear hb0 hw hw0 hw1
 all_goals
  obtain ⟨hc1,hf1⟩:=bcell hb1
  have hz1 : w.heap.size < w1.heap.size:=by have:=hb1.size;simp at this;omega
  go_wp2_with fail
  exact bodyPost_ret (v:=.agg #[.string ⟨#[]⟩,.int .i64 0,.int .i64 5]) (by simp [results,Tryz.results40,go_sem,hc1]) rfl ⟨ret_text HF.out,(by
   have h : Below w.heap.size w w1:=by first | exact ((Below.refl _ _).alloc (Nat.le_refl _) _).trans (hb1.mono (by simp)) | exact ((Below.refl _ _).alloc (Nat.le_refl _) _).drew.trans (hb1.mono (by simp))
   repeat' (first | exact h | refine Below.setCell ?_ (by first | exact Nat.le_refl _ | (simp;done) | (simp;omega)) _ | refine Below.drew ?_ | refine below_drewN ?_ _))⟩
theorem specUnseal_any (s : ByteArray) (w : World) (hs : s.size <= maxLen) :
 Calls Tryz.prog 40 #[.string s] w fun e w' => e = .returned (textOutV (openS s)) /\ Below w.heap.size w w':=by
 by_cases hl : 8000 < s.size
 · unfold maxLen at hs
   go_enter Tryz.func40,Tryz.ntmps40
   go_wp2_with fail
   exact bodyPost_ret (v:=.agg #[.string ⟨#[]⟩,.int .i64 0,.int .i64 2]) (by simp [results,Tryz.results40,go_sem]) rfl ⟨ret_text (openS_size hl),(Below.refl _ _).alloc (Nat.le_refl _) _⟩
 · by_cases h4 : s.size < 4
   · unfold maxLen at hs
     go_enter Tryz.func40,Tryz.ntmps40
     go_wp2_with fail
     exact bodyPost_ret (v:=.agg #[.string ⟨#[]⟩,.int .i64 0,.int .i64 4]) (by simp [results,Tryz.results40,go_sem]) rfl ⟨ret_text (openS_short hl h4),(Below.refl _ _).alloc (Nat.le_refl _) _⟩
   · by_cases ht : tailS s = crc4 (bodyS s)
     · exact specUnseal_yes s w (by omega) (by omega) ht
     · exact specUnseal_no s w (by omega) (by omega) ht
end Go.Proofs.YtbgoldeopmlbnaaGreatDoor
