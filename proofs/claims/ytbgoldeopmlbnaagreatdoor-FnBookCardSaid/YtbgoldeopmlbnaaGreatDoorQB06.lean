/- Used by the law. -/
import Derived.Test.YtbgoldeopmlbnaaGreatDoorQB05
set_option maxRecDepth 100000
set_option maxHeartbeats 16000000
namespace Go.Proofs.YtbgoldeopmlbnaaGreatDoor
open Go.RowKit G MGet
set_option linter.unusedVariables false
def errV (c : Int) : Value:=.iface 130 (.agg #[.int .i64 c])
theorem unfolded_any (u : Int) (w : World) (h0 : 0 <= u) (h1 : u <= 18446744073709551615) :
 Calls Tryz.prog 106 #[.int .u64 u] w fun e w' => e = .returned (.int .i64 (unf u)) /\ w = w':=by
 by_cases hp : u % 2 = 1
 · have hb : (u % 2 == 0) = false:=by simp;omega
   have HU:=qH (unf_odd hp);clear hp
   go_enter Tryz.func106,Tryz.ntmps106
   go_wp2_with fail
   go_ret
   exact ⟨ret_int HU.out.symm,rfl⟩
 · have hb : (u % 2 == 0) = true:=by simp;omega
   have HU:=qH (unf_even hp);clear hp
   go_enter Tryz.func106,Tryz.ntmps106
   go_wp2_with fail
   go_ret
   exact ⟨ret_int HU.out.symm,rfl⟩
def readJ (s : ByteArray) (j : Nat) (W : World) (l : Nat) (a : Act) (w : World) : Prop :=
 (l = 1 /\ ∃ (k : Nat) (x p z : Int),p = (j : Int) + (k : Int) /\ z = 7 * (k : Int) /\ k <= 9 /\ 0 <= x /\ x < 2 ^ (7 * k) /\ rdS s j (9 - k + 1) k x = rdS s j 10 0 0 /\ w = W.alloc (.cells #[.int .i64 0] 130) /\ ∃ u2 u3 u8 u11 u12 u13 u14 u15 u16 u17 u18 u19 u20 u21 u22 u23 u24 u25 u26 u27 u28 u29 u30 u31 u32 u33 u34 u35 u36 u37 u38 u39 u40 u41 u42 u43 u44 u45 u46 u47 u48 u49 u50 u51 u52 u53 u54 u55 : Value,a = { tmps:=#[.string s,.int .i64 p,u2,u3,.int .i64 0,.int .i64 0,.nilIface,.int .u64 x,u8,.pointer (some ⟨W.heap.size,0,none⟩),.int .i64 z,u11,u12,u13,u14,u15,u16,u17,u18,u19,u20,u21,u22,u23,u24,u25,u26,u27,u28,u29,u30,u31,u32,u33,u34,u35,u36,u37,u38,u39,u40,u41,u42,u43,u44,u45,u46,u47,u48,u49,u50,u51,u52,u53,u54,u55],defers:=[] }) ∨
 (l = 2 /\ ∃ (k : Nat) (x y p z b : Int),p = (j : Int) + (k : Int) + 1 /\ z = 7 * (k : Int) /\ b = PlainAid.bt s (j + k) /\ k <= 9 /\ j + k < s.size /\ 0 <= x /\ x < 2 ^ (7 * k) /\ rdS s j (9 - k + 1) k x = rdS s j 10 0 0 /\ (PlainAid.bt s (j + k) < 128 ∨ k = 9) /\ (k = 9 /\ 1 < PlainAid.bt s (j + k) ∨ y = x + PlainAid.bt s (j + k) % 128 * 2 ^ (7 * k)) /\ w = W.alloc (.cells #[.int .i64 0] 130) /\ ∃ u2 u3 u11 u12 u13 u14 u15 u16 u17 u18 u19 u20 u21 u22 u23 u24 u25 u26 u27 u28 u29 u30 u31 u32 u33 u34 u35 u36 u37 u38 u39 u40 u41 u42 u43 u44 u45 u46 u47 u48 u49 u50 u51 u52 u53 u54 u55 : Value,a = { tmps:=#[.string s,.int .i64 p,u2,u3,.int .i64 0,.int .i64 0,.nilIface,.int .u64 y,.int .u8 b,.pointer (some ⟨W.heap.size,0,none⟩),.int .i64 z,u11,u12,u13,u14,u15,u16,u17,u18,u19,u20,u21,u22,u23,u24,u25,u26,u27,u28,u29,u30,u31,u32,u33,u34,u35,u36,u37,u38,u39,u40,u41,u42,u43,u44,u45,u46,u47,u48,u49,u50,u51,u52,u53,u54,u55],defers:=[] }) ∨
 (l = 0 /\ ∃ c : Int,c ≠ 0 /\ rdS s j 10 0 0 = (0,0,c) /\ w = W.alloc (.cells #[.int .i64 c] 130) /\ ∃ u1 u2 u3 u7 u8 u10 u11 u12 u13 u14 u15 u16 u17 u18 u19 u20 u21 u22 u23 u24 u25 u26 u27 u28 u29 u30 u31 u32 u33 u34 u35 u36 u37 u38 u39 u40 u41 u42 u43 u44 u45 u46 u47 u48 u49 u50 u51 u52 u53 u54 u55 : Value,a = { tmps:=#[.string s,u1,u2,u3,.int .i64 0,.int .i64 0,.nilIface,u7,u8,.pointer (some ⟨W.heap.size,0,none⟩),u10,u11,u12,u13,u14,u15,u16,u17,u18,u19,u20,u21,u22,u23,u24,u25,u26,u27,u28,u29,u30,u31,u32,u33,u34,u35,u36,u37,u38,u39,u40,u41,u42,u43,u44,u45,u46,u47,u48,u49,u50,u51,u52,u53,u54,u55],defers:=[] })
def readM (l : Nat) (a : Act) (_ : World) : Nat:=if l = 1 then 80 - (intOf (a.tmps.getD 10 undef)).toNat else if l = 2 then 1 else 0
def readV (t : Int × Int × Int) : Value:=if t.2.2 = 0 then .tuple #[.int .i64 t.1,.int .i64 t.2.1,.nilIface] else .tuple #[.int .i64 0,.int .i64 0,errV t.2.2]
theorem readV_ok (n a : Int) : readV (n,a,0) = .tuple #[.int .i64 n,.int .i64 a,.nilIface]:=by simp [readV]
theorem readV_err {c : Int} (h : c ≠ 0) : readV (0,0,c) = .tuple #[.int .i64 0,.int .i64 0,errV c]:=by simp [readV,h]
theorem readNum_any (s : ByteArray) (j : Nat) (w : World) (hj : (j : Int) <= 9223372036854775807) (hs : s.size <= 8000) :
 Calls Tryz.prog 93 #[.string s,.int .i64 j] w fun e w' => e = .returned (readV (rdS s j 10 0 0)) /\ Below w.heap.size w w':=by
 have hb:=PlainAid.get_bt s
 go_enter Tryz.func93,Tryz.ntmps93
 go_wp2_with fail
 refine wp_scope_labels (readJ s j w) readM ?_ ?_
 · have hc0:=PlainAid.bt_nonneg s j
   have hc1:=PlainAid.bt_le s j
   go_wp2_with fail
   go_step3
   by_cases hsh : s.size <= j
   · have HF:=qH (rd_short (s:=s) (a:=j) (f:=9) (k:=0) (x:=0) hsh)
     go_wp2_with fail
     go_step3
     exact (show readJ s j w 0 _ _ from Or.inr (Or.inr ⟨rfl,4,by decide,HF.out,rfl,_,_,_,_,_,_,_,_,_,_,_,_,_,_,_,_,_,_,_,_,_,_,_,_,_,_,_,_,_,_,_,_,_,_,_,_,_,_,_,_,_,_,_,_,_,_,_,_,_,_,_,rfl⟩))
   · have hor : bits .or .u64 0 (PlainAid.bt s j % 128) = PlainAid.bt s j % 128:=by
      have:=or_fits (x:=0) (k:=0) (by omega) (by decide) (by omega) hc0 hc1 (by omega)
      simpa using this
     have hjs : j < s.size:=by omega
     by_cases hC : PlainAid.bt s j < 128
     · go_wp2_with fail
       go_step3
       exact (show readJ s j w 2 _ _ from Or.inr (Or.inl ⟨rfl,0,0,_,_,_,_,by simp,by simp,rfl,by omega,by omega,by omega,by decide,rfl,Or.inl hC,Or.inr (by simp),rfl,_,_,_,_,_,_,_,_,_,_,_,_,_,_,_,_,_,_,_,_,_,_,_,_,_,_,_,_,_,_,_,_,_,_,_,_,_,_,_,_,_,_,_,_,_,_,_,rfl⟩))
     · have HM:=qH (rd_more (s:=s) (a:=j) (f:=9) (k:=0) (x:=0) (by omega) (by decide) hC)
       have HA:=qH (add_more (x:=0) (c:=PlainAid.bt s j) (k:=0) (by omega) (by decide) (by omega) hc0 hc1)
       have e0 : PlainAid.bt s j % 128 = 0 + PlainAid.bt s (j + 0) % 128 * 2 ^ (7 * 0):=by simp
       have E0:=qH e0;clear e0
       go_wp2_with fail
       go_step3
       exact (show readJ s j w 1 _ _ from Or.inl ⟨rfl,1,_,_,_,by simp,by simp,by omega,by have:=HA.out.1;simpa using this,by have:=HA.out.2;simpa using this,by rw [E0.out];exact HM.out.symm,rfl,_,_,_,_,_,_,_,_,_,_,_,_,_,_,_,_,_,_,_,_,_,_,_,_,_,_,_,_,_,_,_,_,_,_,_,_,_,_,_,_,_,_,_,_,_,_,_,_,rfl⟩)
 · intro l a w' hJ
   rcases hJ with ⟨rfl,k,x,p,z,rfl,rfl,hk,hx0,hx1,hrd,rfl,u2,u3,u8,u11,u12,u13,u14,u15,u16,u17,u18,u19,u20,u21,u22,u23,u24,u25,u26,u27,u28,u29,u30,u31,u32,u33,u34,u35,u36,u37,u38,u39,u40,u41,u42,u43,u44,u45,u46,u47,u48,u49,u50,u51,u52,u53,u54,u55,rfl⟩ | ⟨rfl,k,x,y,p,z,b,rfl,rfl,rfl,hk,hjk,hx0,hx1,hrd,hlast,hy,rfl,u2,u3,u11,u12,u13,u14,u15,u16,u17,u18,u19,u20,u21,u22,u23,u24,u25,u26,u27,u28,u29,u30,u31,u32,u33,u34,u35,u36,u37,u38,u39,u40,u41,u42,u43,u44,u45,u46,u47,u48,u49,u50,u51,u52,u53,u54,u55,rfl⟩ | ⟨rfl,c,hc,hrd,rfl,u1,u2,u3,u7,u8,u10,u11,u12,u13,u14,u15,u16,u17,u18,u19,u20,u21,u22,u23,u24,u25,u26,u27,u28,u29,u30,u31,u32,u33,u34,u35,u36,u37,u38,u39,u40,u41,u42,u43,u44,u45,u46,u47,u48,u49,u50,u51,u52,u53,u54,u55,rfl⟩
   · refine ⟨_,rfl,?_⟩
     have HX:=qH hx1;clear hx1
     have HR:=qH hrd;clear hrd
     by_cases hsh : s.size <= j + k
     · have HF:=qH (HR.out.symm.trans (rd_short hsh))
       go_wp2_with fail
       go_step3
       exact (show readJ s j w 0 _ _ /\ readM 0 _ _ < readM 1 _ _ from ⟨Or.inr (Or.inr ⟨rfl,4,by decide,HF.out,rfl,_,_,_,_,_,_,_,_,_,_,_,_,_,_,_,_,_,_,_,_,_,_,_,_,_,_,_,_,_,_,_,_,_,_,_,_,_,_,_,_,_,_,_,_,_,_,_,_,_,_,_,rfl⟩),by simp [readM,intOf];omega⟩)
     · have hc0:=PlainAid.bt_nonneg s (j + k)
       have hc1:=PlainAid.bt_le s (j + k)
       have hjk : j + k < s.size:=by omega
       by_cases h9 : k = 9
       · subst h9
         go_wp2_with fail
         all_goals go_step3
         all_goals exact (show readJ s j w 2 _ _ /\ readM 2 _ _ < readM 1 _ _ from ⟨Or.inr (Or.inl ⟨rfl,9,x,_,_,_,_,by simp,by simp,rfl,by omega,hjk,hx0,HX.out,HR.out,Or.inr rfl,(by
          by_cases h1 : 1 < PlainAid.bt s (j + 9)
          · exact Or.inl ⟨rfl,h1⟩
          · refine Or.inr ?_
            have h:=or_fits hx0 HX.out (by omega) hc0 hc1 (fun _ => by omega)
            have hf:=add_fits hx0 HX.out (by omega) hc0 hc1 (fun _ => by omega)
            simp at h hf ⊢
            rw [wraps_u64' _ (by omega) (by omega)]
            exact h),rfl,_,_,_,_,_,_,_,_,_,_,_,_,_,_,_,_,_,_,_,_,_,_,_,_,_,_,_,_,_,_,_,_,_,_,_,_,_,_,_,_,_,_,_,_,_,_,_,rfl⟩),by simp [readM,intOf]⟩)
       · have hfit:=add_fits hx0 HX.out hk hc0 hc1 (fun h => by omega)
         obtain ⟨hp0,hp1,hp2⟩:=hfit
         have hor:=or_fits hx0 HX.out hk hc0 hc1 (fun h => by omega)
         by_cases hC : PlainAid.bt s (j + k) < 128
         · go_wp2_with fail
           go_step3
           exact (show readJ s j w 2 _ _ /\ readM 2 _ _ < readM 1 _ _ from ⟨Or.inr (Or.inl ⟨rfl,k,x,_,_,_,_,rfl,rfl,rfl,hk,hjk,hx0,HX.out,HR.out,Or.inl hC,Or.inr rfl,rfl,_,_,_,_,_,_,_,_,_,_,_,_,_,_,_,_,_,_,_,_,_,_,_,_,_,_,_,_,_,_,_,_,_,_,_,_,_,_,_,_,_,_,_,_,_,_,_,rfl⟩),by simp [readM,intOf];omega⟩)
         · have HM:=qH (rd_more (f:=9 - k) (x:=x) hsh h9 hC)
           have HA:=qH (add_more hx0 HX.out (by omega) hc0 hc1)
           go_wp2_with fail
           go_step3
           exact (show readJ s j w 1 _ _ /\ readM 1 _ _ < readM 1 _ _ from ⟨Or.inl ⟨rfl,k + 1,_,_,_,by push_cast;omega,by push_cast;omega,by omega,HA.out.1,HA.out.2,by rw [show 9 - (k + 1) + 1 = 9 - k by omega,<- HM.out,HR.out],rfl,_,_,_,_,_,_,_,_,_,_,_,_,_,_,_,_,_,_,_,_,_,_,_,_,_,_,_,_,_,_,_,_,_,_,_,_,_,_,_,_,_,_,_,_,_,_,_,_,rfl⟩,by simp [readM,intOf];omega⟩)
   · refine ⟨_,rfl,?_⟩
     have hc0:=PlainAid.bt_nonneg s (j + k)
     have hc1:=PlainAid.bt_le s (j + k)
     have HX:=qH hx1;clear hx1
     have HR:=qH hrd;clear hrd
     by_cases h91 : k = 9 /\ 1 < PlainAid.bt s (j + k)
     · obtain ⟨h9,h1⟩:=h91
       subst h9
       have HF:=qH (HR.out.symm.trans (rd_ten (by omega) rfl h1))
       clear hy
       go_wp2_with fail
       go_step3
       exact (show readJ s j w 0 _ _ /\ readM 0 _ _ < readM 2 _ _ from ⟨Or.inr (Or.inr ⟨rfl,3,by decide,HF.out,rfl,_,_,_,_,_,_,_,_,_,_,_,_,_,_,_,_,_,_,_,_,_,_,_,_,_,_,_,_,_,_,_,_,_,_,_,_,_,_,_,_,_,_,_,_,_,_,_,_,_,_,_,rfl⟩),by simp [readM]⟩)
     · have hy' : y = x + PlainAid.bt s (j + k) % 128 * 2 ^ (7 * k):=by
        rcases hy with hy | hy
        · exact absurd hy h91
        · exact hy
       have hC : PlainAid.bt s (j + k) < 128:=by omega
       by_cases hA : PlainAid.bt s (j + k) = 0 /\ 0 < k
       · obtain ⟨hA0,hAk⟩:=hA
         have HF:=qH (HR.out.symm.trans (rd_nil (by omega) hA0 hAk))
         have hcz : (PlainAid.bt s (j + k) == 0) = true:=by simp [hA0]
         have hcl : PlainAid.bt s (j + k) <= 0:=by omega
         clear hA0 hy hy'
         by_cases h9 : k = 9
         · subst h9
           go_wp2_with fail
           go_step3
           exact (show readJ s j w 0 _ _ /\ readM 0 _ _ < readM 2 _ _ from ⟨Or.inr (Or.inr ⟨rfl,3,by decide,HF.out,rfl,_,_,_,_,_,_,_,_,_,_,_,_,_,_,_,_,_,_,_,_,_,_,_,_,_,_,_,_,_,_,_,_,_,_,_,_,_,_,_,_,_,_,_,_,_,_,_,_,_,_,_,rfl⟩),by simp [readM]⟩)
         · have h63 : ((7 * (k : Int)) == 63) = false:=by simp;omega
           go_wp2_with fail
           go_step3
           exact (show readJ s j w 0 _ _ /\ readM 0 _ _ < readM 2 _ _ from ⟨Or.inr (Or.inr ⟨rfl,3,by decide,HF.out,rfl,_,_,_,_,_,_,_,_,_,_,_,_,_,_,_,_,_,_,_,_,_,_,_,_,_,_,_,_,_,_,_,_,_,_,_,_,_,_,_,_,_,_,_,_,_,_,_,_,_,_,_,rfl⟩),by simp [readM]⟩)
       · have HF:=qH (HR.out.symm.trans (rd_last (by omega) h91 hC hA))
         have hfit:=add_fits hx0 HX.out hk hc0 hc1 (fun h => by omega)
         obtain ⟨hp0,hp1,hp2⟩:=hfit
         have hy0 : 0 <= y:=by omega
         have hy1 : y <= 18446744073709551615:=by omega
         rw [<- hy'] at HF
         clear hy hy' hp0 hp1 hp2
         by_cases h9 : k = 9
         · subst h9
           have hcn : ¬ 1 < PlainAid.bt s (j + 9):=by omega
           have hcz : (PlainAid.bt s (j + 9) == 0) = false:=by simp;omega
           go_wp2_with fail
           refine (unfolded_any _ _ hy0 hy1).mono ?_
           rintro e w1 ⟨rfl,rfl⟩
           go_wp2_with fail
           rw [jumps_ret]
           go_ret3
           exact ⟨by rw [HF.out,readV_ok];rfl,(Below.refl _ _).alloc (Nat.le_refl _) _⟩
         · have h63 : ((7 * (k : Int)) == 63) = false:=by simp;omega
           have HB : Hid ((0 < k /\ ¬ PlainAid.bt s (j + k) = 0) ∨ k = 0):=by
            by_cases hk0 : k = 0
            · exact Or.inr hk0
            · exact Or.inl ⟨by omega,by omega⟩
           rcases HB.out with ⟨hk0,hcz'⟩ | rfl
           · have hcz : (PlainAid.bt s (j + k) == 0) = false:=by simp;omega
             go_wp2_with fail
             refine (unfolded_any _ _ hy0 hy1).mono ?_
             rintro e w1 ⟨rfl,rfl⟩
             go_wp2_with fail
             rw [jumps_ret]
             go_ret3
             exact ⟨by rw [HF.out,readV_ok];rfl,(Below.refl _ _).alloc (Nat.le_refl _) _⟩
           · go_wp2_with fail
             refine (unfolded_any _ _ hy0 hy1).mono ?_
             rintro e w1 ⟨rfl,rfl⟩
             go_wp2_with fail
             rw [jumps_ret]
             go_ret3
             exact ⟨by rw [HF.out,readV_ok];simp,(Below.refl _ _).alloc (Nat.le_refl _) _⟩
   · refine ⟨_,rfl,?_⟩
     go_wp2_with fail
     go_quiet (fail)
     go_wp2_with fail
     rw [jumps_ret]
     go_ret3
     exact ⟨by rw [hrd,readV_err hc];rfl,below_drewN ((Below.refl _ _).alloc (Nat.le_refl _) _) _⟩
def numOutV (t : Int × Int × Int) : Value:=.agg #[.int .i64 t.1,.int .i64 t.2.1,.int .i64 t.2.2]
theorem ret_num {t : Int × Int × Int} {a b c : Int} (h : t = (a,b,c)) : Ending.returned (.agg #[.int .i64 a,.int .i64 b,.int .i64 c]) = .returned (numOutV t):=by rw [h];rfl
theorem specGetNum_any (s : ByteArray) (a : Int) (w : World) (ha : (Lit.int .i64 a).wf = true) (hs : s.size <= maxLen) :
 Calls Tryz.prog 75 #[.string s,.int .i64 a] w fun e w' => e = .returned (numOutV (getS s a)) /\ Below w.heap.size w w':=by
 unfold maxLen at hs
 obtain ⟨g0,g1⟩:=bounds_i64 ha
 by_cases hl : 8000 < s.size
 · go_enter Tryz.func75,Tryz.ntmps75
   go_wp2_with fail
   exact bodyPost_ret (v:=.agg #[.int .i64 0,.int .i64 0,.int .i64 2]) (by simp [results,Tryz.results75,go_sem]) rfl ⟨ret_num (getS_size hl),(Below.refl _ _).alloc (Nat.le_refl _) _⟩
 · by_cases hn : a < 0
   · go_enter Tryz.func75,Tryz.ntmps75
     go_wp2_with fail
     exact bodyPost_ret (v:=.agg #[.int .i64 0,.int .i64 0,.int .i64 1]) (by simp [results,Tryz.results75,go_sem]) rfl ⟨ret_num (getS_form hl hn),(Below.refl _ _).alloc (Nat.le_refl _) _⟩
   · obtain ⟨j,rfl⟩:=Int.eq_ofNat_of_zero_le (show 0 <= a by omega)
     have HG:=qH (getS_read (s:=s) (a:=j) hl)
     have hb:=PlainAid.get_bt s
     go_enter Tryz.func75,Tryz.ntmps75
     go_wp2_with fail
     go_loop [5,6] (fun u i => ∃ (k : Nat) (x : Int),k <= 9 /\ i = .int .i64 k /\ u = .int .u64 x /\ 0 <= x /\ x < 2 ^ (7 * k) /\ rdS s j (9 - k + 1) k x = rdS s j 10 0 0) (fun _ i => 10 - (intOf i).toNat)
     case atStart => exact ⟨0,0,by omega,rfl,rfl,by omega,by decide,rfl⟩
     case round =>
      obtain ⟨k,x,hk,rfl,rfl,hx0,hx1,hrd⟩:=hrel
      have HX:=qH hx1;clear hx1
      have HR:=qH (hrd.trans HG.out.symm);clear hrd
      by_cases hsh : s.size <= j + k
      · have HF:=qH (HR.out.symm.trans (rd_short hsh))
        go_wp2_with fail
        exact bodyPost_ret (v:=.agg #[.int .i64 0,.int .i64 0,.int .i64 4]) (by simp [results,Tryz.results75,go_sem]) rfl ⟨ret_num HF.out,(Below.refl _ _).alloc (Nat.le_refl _) _⟩
      · have hc0:=PlainAid.bt_nonneg s (j + k)
        have hc1:=PlainAid.bt_le s (j + k)
        have hjk : j + k < s.size:=by omega
        by_cases h9 : k = 9 /\ 1 < PlainAid.bt s (j + k)
        · obtain ⟨h9,h91⟩:=h9
          have HF:=qH (HR.out.symm.trans (rd_ten hsh h9 h91))
          subst h9
          go_wp2_with fail
          exact bodyPost_ret (v:=.agg #[.int .i64 0,.int .i64 0,.int .i64 3]) (by simp [results,Tryz.results75,go_sem]) rfl ⟨ret_num HF.out,(Below.refl _ _).alloc (Nat.le_refl _) _⟩
        · by_cases hA : PlainAid.bt s (j + k) = 0 /\ 0 < k
          · obtain ⟨hA0,hAk⟩:=hA
            have HF:=qH (HR.out.symm.trans (rd_nil hsh hA0 hAk))
            have h9' : ¬ (k = 9 /\ 1 < PlainAid.bt s (j + k)):=h9
            have hcl : PlainAid.bt s (j + k) < 128:=by omega
            have hcz : (PlainAid.bt s (j + k) == 0) = true:=by simp [hA0]
            have hcn : ¬ 1 < PlainAid.bt s (j + k):=by omega
            have HA0:=qH hA0;clear hA0
            have hfit:=add_fits hx0 HX.out hk hc0 hc1 (fun h => by omega)
            obtain ⟨hp0,hp1,hp2⟩:=hfit
            go_wp2_with fail
            all_goals exact bodyPost_ret (v:=.agg #[.int .i64 0,.int .i64 0,.int .i64 3]) (by simp [results,Tryz.results75,go_sem]) rfl ⟨ret_num HF.out,(Below.refl _ _).alloc (Nat.le_refl _) _⟩
          · by_cases hC : PlainAid.bt s (j + k) < 128
            · have HF:=qH (HR.out.symm.trans (rd_last hsh h9 hC hA))
              have hfit:=add_fits hx0 HX.out hk hc0 hc1 (fun h => by omega)
              obtain ⟨hp0,hp1,hp2⟩:=hfit
              by_cases hk9 : k = 9
              · subst hk9
                have hq1 : x + PlainAid.bt s (j + 9) % 128 * 9223372036854775808 <= 18446744073709551615:=by simpa using hp2
                clear hp0 hp1 hp2
                have hz : ¬ PlainAid.bt s (j + 9) = 0:=by omega
                by_cases hpar : (x + PlainAid.bt s (j + 9) % 128 * 9223372036854775808) % 2 = 1
                · have HU:=qH (show unf (x + PlainAid.bt s (j + 9) % 128 * 2 ^ (7 * 9)) = -((x + PlainAid.bt s (j + 9) % 128 * 9223372036854775808) / 2) - 1 from by simpa using unf_odd hpar)
                  have hpb : ((x + PlainAid.bt s (j + 9) % 128 * 9223372036854775808) % 2 == 1) = true:=by simp [hpar]
                  have HPAR:=qH hpar;clear hpar
                  go_wp2_with fail
                  exact bodyPost_ret (v:=.agg #[.int .i64 (-((x + PlainAid.bt s (j + 9) % 128 * 9223372036854775808) / 2) - 1),.int .i64 (j + (9 : Nat) + 1),.int .i64 0]) (by simp [results,Tryz.results75,go_sem]) rfl ⟨ret_num (by rw [HF.out,HU.out]),(Below.refl _ _).alloc (Nat.le_refl _) _⟩
                · have HU:=qH (show unf (x + PlainAid.bt s (j + 9) % 128 * 2 ^ (7 * 9)) = (x + PlainAid.bt s (j + 9) % 128 * 9223372036854775808) / 2 from by simpa using unf_even hpar)
                  have hpb : ((x + PlainAid.bt s (j + 9) % 128 * 9223372036854775808) % 2 == 1) = false:=by simp;omega
                  have HPAR:=qH hpar;clear hpar
                  go_wp2_with fail
                  exact bodyPost_ret (v:=.agg #[.int .i64 ((x + PlainAid.bt s (j + 9) % 128 * 9223372036854775808) / 2),.int .i64 (j + (9 : Nat) + 1),.int .i64 0]) (by simp [results,Tryz.results75,go_sem]) rfl ⟨ret_num (by rw [HF.out,HU.out]),(Below.refl _ _).alloc (Nat.le_refl _) _⟩
              · by_cases hc0' : PlainAid.bt s (j + k) = 0
                · obtain rfl : k = 0:=by omega
                  obtain rfl : x = 0:=by have:=HX.out;simp at this;omega
                  have HU:=qH (show unf (0 + PlainAid.bt s (j + 0) % 128 * 2 ^ (7 * 0)) = PlainAid.bt s j % 128 / 2 from by rw [show PlainAid.bt s j = 0 from hc0',hc0'];rfl)
                  rw [Nat.add_zero] at hc0 hc1 hc0' hC
                  have hcz : (PlainAid.bt s j == 0) = true:=by simp [hc0']
                  have hcl : PlainAid.bt s j <= 0:=by omega
                  have HC0:=qH hc0';clear hc0' hp0 hp1 hp2 hA h9 HC0 hjk
                  go_wp2_with fail
                  exact bodyPost_ret (v:=.agg #[.int .i64 (PlainAid.bt s j % 128 / 2),.int .i64 (j + 1),.int .i64 0]) (by simp [results,Tryz.results75,go_sem]) rfl ⟨ret_num (by rw [HF.out,HU.out];simp),(Below.refl _ _).alloc (Nat.le_refl _) _⟩
                · by_cases hpar : (x + PlainAid.bt s (j + k) % 128 * 2 ^ (7 * k)) % 2 = 1
                  · have HU : Hid (unf (x + PlainAid.bt s (j + k) % 128 * 2 ^ (7 * k)) = -((x + PlainAid.bt s (j + k) % 128 * 2 ^ (7 * k)) / 2) - 1):=unf_odd hpar
                    have hpb : ((x + PlainAid.bt s (j + k) % 128 * 2 ^ (7 * k)) % 2 == 1) = true:=by simp [hpar]
                    have HPAR:=qH hpar;clear hpar
                    go_wp2_with fail
                    exact bodyPost_ret (v:=.agg #[.int .i64 (-((x + PlainAid.bt s (j + k) % 128 * 2 ^ (7 * k)) / 2) - 1),.int .i64 (j + k + 1),.int .i64 0]) (by simp [results,Tryz.results75,go_sem]) rfl ⟨ret_num (by rw [HF.out,HU.out]),(Below.refl _ _).alloc (Nat.le_refl _) _⟩
                  · have HU : Hid (unf (x + PlainAid.bt s (j + k) % 128 * 2 ^ (7 * k)) = (x + PlainAid.bt s (j + k) % 128 * 2 ^ (7 * k)) / 2):=unf_even hpar
                    have hpb : ((x + PlainAid.bt s (j + k) % 128 * 2 ^ (7 * k)) % 2 == 1) = false:=by simp;omega
                    have HPAR:=qH hpar;clear hpar
                    go_wp2_with fail
                    exact bodyPost_ret (v:=.agg #[.int .i64 ((x + PlainAid.bt s (j + k) % 128 * 2 ^ (7 * k)) / 2),.int .i64 (j + k + 1),.int .i64 0]) (by simp [results,Tryz.results75,go_sem]) rfl ⟨ret_num (by rw [HF.out,HU.out]),(Below.refl _ _).alloc (Nat.le_refl _) _⟩
            · have h9k : k ≠ 9:=by omega
              have HF:=qH (rd_more (f:=9 - k) (x:=x) hsh h9k hC)
              have hfit:=add_fits hx0 HX.out hk hc0 hc1 (fun h => by omega)
              obtain ⟨hp0,hp1,hp2⟩:=hfit
              have HM:=qH (add_more hx0 HX.out (by omega) hc0 hc1)
              go_wp2_with fail
              go_round
              case rel => exact ⟨k + 1,_,by omega,by go_num,rfl,HM.out.1,HM.out.2,by rw [show 9 - (k + 1) + 1 = 9 - k by omega,<- HF.out,HR.out,HG.out]⟩
              case measure => simp [intOf];omega
def faultI (s : ByteArray) (a : Int) : Int:=if 8000 < s.size then 2 else if a < 0 then 1 else 0
theorem faultI_size {s : ByteArray} {a : Int} (h : 8000 < s.size) : faultI s a = 2:=by unfold faultI;rw [if_pos h]
theorem faultI_form {s : ByteArray} {a : Int} (h : ¬ 8000 < s.size) (h' : a < 0) : faultI s a = 1:=by unfold faultI;rw [if_neg h,if_pos h']
theorem faultI_ok {s : ByteArray} {a : Int} (h : ¬ 8000 < s.size) (h' : ¬ a < 0) : faultI s a = 0:=by unfold faultI;rw [if_neg h,if_neg h']
theorem placeFault_any (s : ByteArray) (a : Int) (w : World) (hs : s.size <= maxLen) :
 Calls Tryz.prog 67 #[.string s,.int .i64 a] w fun e w' => e = .returned (.int .i64 (faultI s a)) /\ w = w':=by
 by_cases h : 8000 < s.size
 · go_enter Tryz.func67,Tryz.ntmps67
   go_wp2_with (go_at_call 64;refine (tooLong_any _ _ hs).mono ?_;rintro e w' ⟨rfl,rfl⟩)
   go_ret
   exact ⟨ret_int (faultI_size h).symm,rfl⟩
 · by_cases hn : a < 0
   all_goals
    go_enter Tryz.func67,Tryz.ntmps67
    go_wp2_with (go_at_call 64;refine (tooLong_any _ _ hs).mono ?_;rintro e w' ⟨rfl,rfl⟩)
    go_ret
    first
     | exact ⟨ret_int (faultI_form h hn).symm,rfl⟩
     | exact ⟨ret_int (faultI_ok h (by omega)).symm,rfl⟩
def textV (t : ByteArray × Int × Int) : Value:=if t.2.2 = 0 then .tuple #[.string t.1,.int .i64 t.2.1,.nilIface] else .tuple #[.string ⟨#[]⟩,.int .i64 0,errV t.2.2]
theorem textV_ok (s : ByteArray) (a : Int) : textV (s,a,0) = .tuple #[.string s,.int .i64 a,.nilIface]:=by simp [textV]
theorem textV_err {c : Int} (h : c ≠ 0) : textV (⟨#[]⟩,0,c) = .tuple #[.string ⟨#[]⟩,.int .i64 0,errV c]:=by simp [textV,h]
theorem readText_any (s : ByteArray) (j : Nat) (w : World) (hj : (j : Int) <= 9223372036854775807) (hs : s.size <= 8000) :
 Calls Tryz.prog 68 #[.string s,.int .i64 j] w fun e w' => e = .returned (textV (txtS s j)) /\ Below w.heap.size w w':=by
 have hpl:=rd_place s j 10 0 0
 have HZ:=qH (rd_zero s j 10 0 0)
 obtain ⟨⟨n,p,c⟩,ht⟩ : ∃ t,t = rdS s j 10 0 0:=⟨_,rfl⟩
 have HT:=qH ht
 rw [<- ht] at hpl HZ
 simp only [] at hpl HZ
 by_cases hc : c = 0
 · subst hc
   obtain ⟨hp0,hp1⟩:=hpl rfl
   obtain ⟨p,rfl⟩:=Int.eq_ofNat_of_zero_le (show 0 <= p by omega)
   by_cases hn : n < 0 ∨ 8000 < n
   · have HF:=qH (txt_form HT.out.symm hn)
     go_enter Tryz.func68,Tryz.ntmps68
     go_wp2_with fail
     refine (readNum_any s j _ hj hs).mono ?_
     rintro e w1 ⟨rfl,hb1⟩
     rw [<- HT.out,readV_ok]
     clear ht hpl
     rcases hn with hn | hn
     all_goals
      go_wp2_with fail
      go_ret3
      exact ⟨by rw [HF.out,textV_err (by decide)];rfl,hb1⟩
   · obtain ⟨n,rfl⟩:=Int.eq_ofNat_of_zero_le (show 0 <= n by omega)
     by_cases hsh : (s.size : Int) < p + n
     · have HF:=qH (txt_short HT.out.symm hn hsh)
       go_enter Tryz.func68,Tryz.ntmps68
       go_wp2_with fail
       refine (readNum_any s j _ hj hs).mono ?_
       rintro e w1 ⟨rfl,hb1⟩
       rw [<- HT.out,readV_ok]
       clear ht hpl
       have hn8 : n <= 8000:=by omega
       clear hn
       go_wp2_with fail
       go_ret3
       exact ⟨by rw [HF.out,textV_err (by decide)];rfl,hb1⟩
     · have hn8 : n <= 8000:=by omega
       have hpn : p + n <= s.size:=by omega
       have HF:=qH (txt_ok HT.out.symm hn8 hpn)
       go_enter Tryz.func68,Tryz.ntmps68
       go_wp2_with fail
       refine (readNum_any s j _ hj hs).mono ?_
       rintro e w1 ⟨rfl,hb1⟩
       rw [<- HT.out,readV_ok]
       clear ht hpl hn hj hp0 hsh
       have hsl:=fun W => run_cut_str (P:=Tryz.prog) W 9 Tryz.underlying9 s p n hpn
       have hsz:=size_cut s p n hpn
       generalize s.extract p (p + n) = x at hsl hsz HF
       have hsx : x.size <= 1000000000:=by omega
       have HSX:=qH hsx;clear hsx hsz
       go_wp2_with fail
       refine (joined_one _ _ _ HSX.out).mono ?_
       rintro e w2 ⟨rfl,hb2⟩
       clear hsl
       go_wp2_with fail
       go_ret3
       exact ⟨by rw [HF.out,textV_ok];rfl,hb1.trans (hb2.mono hb1.size)⟩
 · have HF:=qH (txt_err HT.out.symm hc)
   have HZ':=qH (HZ.out hc)
   go_enter Tryz.func68,Tryz.ntmps68
   go_wp2_with fail
   refine (readNum_any s j _ hj hs).mono ?_
   rintro e w1 ⟨rfl,hb1⟩
   rw [<- HT.out,HZ'.out,readV_err hc]
   unfold errV
   clear ht hpl hj
   go_wp2_with fail
   go_ret3
   exact ⟨by rw [HF.out,textV_err hc];rfl,hb1⟩
end Go.Proofs.YtbgoldeopmlbnaaGreatDoor
