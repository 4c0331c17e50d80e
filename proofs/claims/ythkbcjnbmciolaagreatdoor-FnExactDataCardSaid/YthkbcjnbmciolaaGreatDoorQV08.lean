/- Used by the law. -/
import Derived.Test.YthkbcjnbmciolaaGreatDoorQV07
set_option maxRecDepth 100000
set_option maxHeartbeats 16000000
namespace Go.Proofs.YthkbcjnbmciolaaGreatDoor
open Go.RowKit Go.PlainAid G MGF IRow
set_option linter.unusedVariables false
structure Im where
 nm : ByteArray
 tm : Int
 bd : ByteArray
def imD : Im:=⟨ByteArray.empty,0,ByteArray.empty⟩
def imE : Enc Im:=⟨3,fun e => [.string e.nm,.int .i64 e.tm,.string e.bd],fun _ => rfl,by intro x v hv;simp at hv;rcases hv with rfl | rfl | rfl <;> rfl⟩
theorem toItem_any (q0 : ByteArray) (q1 : Int) (q2 : ByteArray) (w : World) :
 Calls Tryz.prog 79 #[.agg #[.string q0,.int .i64 q1,.string q2]] w fun e w' => e = .returned (.agg #[.string q0,.int .i64 q1,.string q2]) /\ Below w.heap.size w w':=by
 go_enter Tryz.func79,Tryz.ntmps79
 go_wp2_with fail
 exact bodyPost_ret (v:=.agg #[.string q0,.int .i64 q1,.string q2]) (by simp [results,Tryz.results79,go_sem]) rfl ⟨rfl,by repeat' (first | exact Below.refl _ _ | refine Below.alloc ?_ (by first | exact Nat.le_refl _ | (simp;done) | (simp;omega)) _ | refine Below.setCell ?_ (by first | exact Nat.le_refl _ | (simp;done) | (simp;omega)) _)⟩
theorem eqItem_same (q0 : ByteArray) (q1 : Int) (q2 : ByteArray) (w : World) :
 Calls Tryz.prog 92 #[.agg #[.string q0,.int .i64 q1,.string q2],.agg #[.string q0,.int .i64 q1,.string q2]] w fun e w' => e = .returned (.bool true) /\ Below w.heap.size w w':=by
 go_enter Tryz.func92,Tryz.ntmps92
 go_wp2_with fail
 go_ret
 exact ⟨rfl,((Below.refl _ _).alloc (Nat.le_refl _) _).alloc (by simp) _⟩
theorem szItem_any (q0 : ByteArray) (q1 : Int) (q2 : ByteArray) (left : Int) (w : World) (hq0 : q0.size <= maxLen) (hq2 : q2.size <= maxLen) (h0 : 0 <= left) (h1 : left <= 1048576) :
 Calls Tryz.prog 70 #[.agg #[.string q0,.int .i64 q1,.string q2],.int .i64 left] w fun e w' => ∃ r : Int,e = .returned (.int .i64 r) /\ (r = -1 ∨ (0 <= r /\ r <= left /\ q0.size <= 1048576 /\ q2.size <= 1048576)) /\ Below w.heap.size w w':=by
 unfold maxLen at hq0 hq2
 have HB : Hid (Below w.heap.size w (w.alloc (.cells #[.string q0,.int .i64 q1,.string q2] 116))):=qH ((Below.refl _ _).alloc (Nat.le_refl _) _)
 have hw0 : IntKind.i64.wrap (left - (q0.size : Int)) = left - (q0.size : Int):=by rw [IntWalk.i64_in _ (by omega)]
 by_cases c0 : left - (q0.size : Int) < 0
 · go_enter Tryz.func70,Tryz.ntmps70
   go_wp2_with fail
   go_ret
   exact ⟨-1,rfl,.inl rfl,HB.out⟩
 · skip
   have hw1 : IntKind.i64.wrap (left - (q0.size : Int) - (q2.size : Int)) = left - (q0.size : Int) - (q2.size : Int):=by rw [IntWalk.i64_in _ (by omega)]
   by_cases c1 : left - (q0.size : Int) - (q2.size : Int) < 0
   · go_enter Tryz.func70,Tryz.ntmps70
     go_wp2_with fail
     go_ret
     exact ⟨-1,rfl,.inl rfl,HB.out⟩
   · skip
     go_enter Tryz.func70,Tryz.ntmps70
     go_wp2_with fail
     go_ret
     exact ⟨_,rfl,.inr ⟨by omega,by omega,by omega,by omega⟩,HB.out⟩
abbrev ImR (w : World) (a : Option Addr) (n cap : Nat) (l : List Im) : Prop:=SR imE imD w a n cap l
theorem ImR.at {w : World} {a : Option Addr} {n cap : Nat} {l : List Im} (h : ImR w a n cap l) {i : Nat} (hi : i < n) : ∃ g o,a = some ⟨g,o,none⟩ /\ g < w.heap.size /\ w.cell? ⟨g,o + i * 3,none⟩ = some (.string (l.getD i imD).nm) /\ w.cell? ⟨g,o + i * 3 + 1,none⟩ = some (.int .i64 (l.getD i imD).tm) /\ w.cell? ⟨g,o + i * 3 + 2,none⟩ = some (.string (l.getD i imD).bd):=by
 obtain ⟨g,o,ha,hg,hc⟩:=h.cells (by omega)
 exact ⟨g,o,ha,hg,hc i hi 0 _ rfl,hc i hi 1 _ rfl,hc i hi 2 _ rfl⟩
theorem ImR.own {w : World} {base n cap : Nat} {a : Option Addr} {e : TypeId} {l : List Im} (h : w.ownsRow base e imE.k (.slice a n cap) n (imE.flat l)) : ImR w a n cap l:=SR.own (by decide) h
theorem ImR.olen {w : World} {base n cap : Nat} {a : Option Addr} {e : TypeId} {l : List Im} (h : w.ownsRow base e imE.k (.slice a n cap) n (imE.flat l)) : l.length = n:=by
 have:=h.1;rw [imE.flat_length] at this;exact Nat.eq_of_mul_eq_mul_right (show 0 < imE.k by decide) this
theorem infoItem : (Tryz.prog.info? 62).map (fun i => (i.zero,i.size,i.bytes)) = some (some (.agg #[.string ByteArray.empty,.int .i64 0,.string ByteArray.empty]),3,40):=by kernel_rfl
theorem ImR.set0 {w : World} {base g n cap : Nat} {e : TypeId} {ps : List Im} (h : w.ownsRow base e imE.k (.slice (some ⟨g,0,none⟩) n cap) n (imE.flat ps)) {i : Nat} (hi : i < n) (v : ByteArray) :
 (w.setCell ⟨g,i * 3,none⟩ (.string v)).ownsRow base e imE.k (.slice (some ⟨g,0,none⟩) n cap) n (imE.flat (ps.set i ⟨v,(ps.getD i imD).tm,(ps.getD i imD).bd⟩)) /\ w.grownBy (w.setCell ⟨g,i * 3,none⟩ (.string v)) (some g):=by
 have hl:=ImR.olen h
 obtain ⟨h1,g1⟩:=h.stored (i * 3) (.string v)
 have e1 : (imE.flat ps).set (i * 3) (.string v) = imE.flat (ps.set i ⟨v,(ps.getD i imD).tm,(ps.getD i imD).bd⟩):=flat_setX imE imD ps i 0 _ _ (by omega) (by decide) rfl
 rw [e1] at h1
 exact ⟨h1,g1⟩
theorem ImR.set1 {w : World} {base g n cap : Nat} {e : TypeId} {ps : List Im} (h : w.ownsRow base e imE.k (.slice (some ⟨g,0,none⟩) n cap) n (imE.flat ps)) {i : Nat} (hi : i < n) (v : Int) :
 (w.setCell ⟨g,i * 3 + 1,none⟩ (.int .i64 v)).ownsRow base e imE.k (.slice (some ⟨g,0,none⟩) n cap) n (imE.flat (ps.set i ⟨(ps.getD i imD).nm,v,(ps.getD i imD).bd⟩)) /\ w.grownBy (w.setCell ⟨g,i * 3 + 1,none⟩ (.int .i64 v)) (some g):=by
 have hl:=ImR.olen h
 obtain ⟨h1,g1⟩:=h.stored (i * 3 + 1) (.int .i64 v)
 have e1 : (imE.flat ps).set (i * 3 + 1) (.int .i64 v) = imE.flat (ps.set i ⟨(ps.getD i imD).nm,v,(ps.getD i imD).bd⟩):=flat_setX imE imD ps i 1 _ _ (by omega) (by decide) rfl
 rw [e1] at h1
 exact ⟨h1,g1⟩
theorem ImR.set2 {w : World} {base g n cap : Nat} {e : TypeId} {ps : List Im} (h : w.ownsRow base e imE.k (.slice (some ⟨g,0,none⟩) n cap) n (imE.flat ps)) {i : Nat} (hi : i < n) (v : ByteArray) :
 (w.setCell ⟨g,i * 3 + 2,none⟩ (.string v)).ownsRow base e imE.k (.slice (some ⟨g,0,none⟩) n cap) n (imE.flat (ps.set i ⟨(ps.getD i imD).nm,(ps.getD i imD).tm,v⟩)) /\ w.grownBy (w.setCell ⟨g,i * 3 + 2,none⟩ (.string v)) (some g):=by
 have hl:=ImR.olen h
 obtain ⟨h1,g1⟩:=h.stored (i * 3 + 2) (.string v)
 have e1 : (imE.flat ps).set (i * 3 + 2) (.string v) = imE.flat (ps.set i ⟨(ps.getD i imD).nm,(ps.getD i imD).tm,v⟩):=flat_setX imE imD ps i 2 _ _ (by omega) (by decide) rfl
 rw [e1] at h1
 exact ⟨h1,g1⟩
theorem ImR.stored {w : World} {base g n cap : Nat} {e : TypeId} {ps : List Im} (h : w.ownsRow base e imE.k (.slice (some ⟨g,0,none⟩) n cap) n (imE.flat ps)) {i : Nat} (hi : i < n) (q0 : ByteArray) (q1 : Int) (q2 : ByteArray) :
 (((w.setCell ⟨g,i * 3,none⟩ (.string q0)).setCell ⟨g,i * 3 + 1,none⟩ (.int .i64 q1)).setCell ⟨g,i * 3 + 2,none⟩ (.string q2)).ownsRow base e imE.k (.slice (some ⟨g,0,none⟩) n cap) n (imE.flat (ps.set i ⟨q0,q1,q2⟩)) /\ w.grownBy (((w.setCell ⟨g,i * 3,none⟩ (.string q0)).setCell ⟨g,i * 3 + 1,none⟩ (.int .i64 q1)).setCell ⟨g,i * 3 + 2,none⟩ (.string q2)) (some g):=by
 have hl:=ImR.olen h
 have gd : ∀ (p q : Im),((ps.set i p).set i q) = ps.set i q:=fun p q => by rw [List.set_set]
 have ge : ∀ p : Im,(ps.set i p).getD i imD = p:=fun p => by simp [List.getD,show i < ps.length by omega]
 have h0:=ImR.set0 h hi q0
 have h1:=ImR.set1 h0.1 hi q1
 rw [gd,ge] at h1
 have h2:=ImR.set2 h1.1 hi q2
 rw [gd,ge] at h2
 exact ⟨h2.1,(grown_trans (grown_trans h0.2 h1.2) h2.2)⟩
theorem eqItemS_same (a b : Option Addr) (n cap cbp : Nat) (l : List Im) (w : World) (h : ImR w a n cap l) (k : ImR w b n cbp l) (hn : n <= 1048576) :
 Calls Tryz.prog 65 #[.slice a n cap,.slice b n cbp] w fun e w' => e = .returned (.bool true) /\ Below w.heap.size w w':=by
 go_enter Tryz.func65,Tryz.ntmps65
 go_wp2_with fail
 go_loopw [5] (fun i wr => ∃ j : Nat,j <= n /\ i = .int .i64 j /\ Below w.heap.size w wr) (fun i _ => n - (intOf i).toNat)
 case atStart => exact ⟨0,Nat.zero_le _,rfl,Below.refl _ _⟩
 case round =>
  obtain ⟨j,hj,rfl,hB⟩:=hrel
  have HB:=qH hB.drew
  by_cases hlt : j < n
  · obtain ⟨g,o,rfl,hg,hc0,hc1,hc2⟩:=h.at hlt
    obtain ⟨g',o',rfl,hg',hd0,hd1,hd2⟩:=k.at hlt
    have a0:=(hB.cell (p:=⟨g,o + j * 3,none⟩) hg).trans hc0
    have a1:=(hB.cell (p:=⟨g,o + j * 3 + 1,none⟩) hg).trans hc1
    have a2:=(hB.cell (p:=⟨g,o + j * 3 + 2,none⟩) hg).trans hc2
    have b0:=(hB.cell (p:=⟨g',o' + j * 3,none⟩) hg').trans hd0
    have b1:=(hB.cell (p:=⟨g',o' + j * 3 + 1,none⟩) hg').trans hd1
    have b2:=(hB.cell (p:=⟨g',o' + j * 3 + 2,none⟩) hg').trans hd2
    generalize (l.getD j imD).nm = q0 at *
    generalize (l.getD j imD).tm = q1 at *
    generalize (l.getD j imD).bd = q2 at *
    clear hc0 hc1 hc2 hd0 hd1 hd2 h k hB
    go_wp2_with fail
    go_still_tail 8,(by kernel_rfl)
    change wpList _ _ _ _ _ wr.drew
    clear a0 a1 a2 b0 b1 b2
    generalize wr.drew = we at *
    go_wp2_with fail
    refine (eqItem_same q0 q1 q2 _).mono ?_
    rintro e w5 ⟨rfl,hb⟩
    have HB5:=qH (HB.out.trans (hb.mono HB.out.size))
    clear hb
    go_wp2_with fail
    go_roundw
    case rel => exact ⟨j + 1,by omega,by go_num,HB5.out⟩
    case measure => simp [intOf] <;> omega
  · obtain rfl : j = n:=by omega
    have HB2:=qH hB
    clear h k hB
    go_wp2_with fail
    go_ret
    exact ⟨rfl,HB2.out⟩
theorem toItemS_any (a : Option Addr) (n cap : Nat) (ps : List Im) (w : World) (h : ImR w a n cap ps) (hn : n <= 1048576) :
 Calls Tryz.prog 52 #[.slice a n cap] w fun e w' => ∃ a' cap',e = .returned (.slice a' n cap') /\ w'.ownsRow w.heap.size 62 imE.k (.slice a' n cap') n (imE.flat ps) /\ Below w.heap.size w w':=by
 obtain ⟨i0,hi,hz0,hz1,hz2⟩:=info_parts infoItem
 have hl:=h.len
 go_enter Tryz.func52,Tryz.ntmps52
 go_wp2_with (at_make;refine wpList_make_full _ rfl (.tmp 6) (.tmp 6) 41 rfl w.heap.size 62 i0 (.agg #[.string ByteArray.empty,.int .i64 0,.string ByteArray.empty]) 3 Tryz.underlying41 hi hz0 hz1 .i64 .i64 _ _ n rfl rfl rfl rfl (by rw [hz2];omega) (by unfold maxLen;omega) (Nat.le_refl _) ?_;intro w4 hown4 hg4;rw [show (madeCells (Value.agg #[Value.string ByteArray.empty,Value.int .i64 0,Value.string ByteArray.empty]).cells (n * 3)).toList = imE.flat (List.replicate n imD) from made_enc imE imD n rfl (by decide)] at hown4)
 have HB4 : Hid (Below w.heap.size w w4):=qH ((Below.refl _ w).grown hg4 (Nat.le_refl _) (fun k hk => by cases hk))
 have HO4 : Hid (w4.ownsRow w.heap.size 62 imE.k (.slice (some ⟨w.heap.size,0,none⟩) n n) n (imE.flat (List.replicate n imD))):=qH hown4
 clear hg4 hown4
 go_loopw [4] (fun i wr => ∃ k : Nat,k <= n /\ i = .int .i64 k /\ wr.ownsRow w.heap.size 62 imE.k (.slice (some ⟨w.heap.size,0,none⟩) n n) n (imE.flat (mixX ps (List.replicate n imD) k)) /\ Below w.heap.size w wr) (fun i _ => n - (intOf i).toNat)
 case atStart => exact ⟨0,Nat.zero_le _,rfl,by rw [mixX_zero];exact HO4.out,HB4.out⟩
 case round =>
  obtain ⟨k,hk,rfl,hown,hB⟩:=hrel
  by_cases hlt : k < n
  · obtain ⟨g,o,rfl,hg,hc0,hc1,hc2⟩:=h.at hlt
    have a0:=(hB.cell (p:=⟨g,o + k * 3,none⟩) hg).trans hc0
    have a1:=(hB.cell (p:=⟨g,o + k * 3 + 1,none⟩) hg).trans hc1
    have a2:=(hB.cell (p:=⟨g,o + k * 3 + 2,none⟩) hg).trans hc2
    have HO:=qH hown
    have HB:=qH hB
    have HM:=qH (mixX_set imD (zs:=ps) (ys:=List.replicate n imD) (k:=k) (by rw [List.length_replicate,hl]) (by omega))
    have hpe : ps.getD k imD = ⟨(ps.getD k imD).nm,(ps.getD k imD).tm,(ps.getD k imD).bd⟩:=rfl
    rw [hpe] at HM
    generalize (ps.getD k imD).nm = q0 at *
    generalize (ps.getD k imD).tm = q1 at *
    generalize (ps.getD k imD).bd = q2 at *
    clear hown hB hc0 hc1 hc2 hpe HB4
    go_wp2_with fail
    refine (toItem_any q0 q1 q2 _).mono ?_
    rintro e w5 ⟨rfl,hb⟩
    have hown:=own_below HO.out hb
    have hB:=HB.out.trans (hb.mono HB.out.size)
    have hs:=ImR.stored hown hlt q0 q1 q2
    rw [HM.out] at hs
    have HS:=qH hs.1
    have HB5:=qH (((hB.setCell (Nat.le_refl _) (p:=⟨w.heap.size,k * 3,none⟩) (.string q0)).setCell (Nat.le_refl _) (p:=⟨w.heap.size,k * 3 + 1,none⟩) (.int .i64 q1)).setCell (Nat.le_refl _) (p:=⟨w.heap.size,k * 3 + 2,none⟩) (.string q2))
    obtain ⟨g',o',hge,_,hd0,hd1,hd2⟩:=(ImR.own hown).at hlt
    simp only [Option.some.injEq,Addr.mk.injEq,and_true] at hge
    obtain ⟨rfl,rfl⟩:=hge
    rw [Nat.zero_add] at hd0 hd1 hd2
    have f0:=hown.frozenAt (k * 3)
    have f1:=hown.frozenAt (k * 3 + 1)
    have f2:=hown.frozenAt (k * 3 + 2)
    clear hs hown hB hb HO HB HM a0 a1 a2
    go_wp2_with fail
    go_roundw
    case rel => exact ⟨k + 1,by omega,by go_num,HS.out,HB5.out⟩
    case measure => simp [intOf] <;> omega
  · obtain rfl : k = n:=by omega
    have hm : mixX ps (List.replicate k imD) k = ps:=by rw [<- hl];exact mixX_all (by simp)
    rw [hm] at hown
    have HO:=qH hown
    have HB:=qH hB
    clear hown hB
    go_wp2_with fail
    go_ret
    exact ⟨_,_,rfl,HO.out,HB.out⟩
def LeftItem (n : Nat) (l : List Im) (left : Int) (w : World) (e : Ending) (w' : World) : Prop :=
 ∃ r : Int,e = .returned (.int .i64 r) /\ ((r = -1) ∨ (0 <= r /\ r <= left /\ n <= 1048576 /\ ∀ t,t < n -> (l.getD t imD).nm.size <= 1048576 /\ (l.getD t imD).bd.size <= 1048576)) /\ Below w.heap.size w w'
theorem szItemS_any (a : Option Addr) (n cap : Nat) (l : List Im) (left : Int) (w : World) (h : ImR w a n cap l) (hn : n <= 9223372036854775807) (hs : ∀ t,t < n -> (l.getD t imD).nm.size <= maxLen /\ (l.getD t imD).bd.size <= maxLen) (hl0 : 0 <= left) (hl1 : left <= 1048576) :
 Calls Tryz.prog 39 #[.slice a n cap,.int .i64 left] w (LeftItem n l left w):=by
 have hw : IntKind.i64.wrap (left - (n : Int)) = left - (n : Int):=by rw [IntWalk.i64_in _ (by omega)]
 have HS:=qH hs
 clear hs
 by_cases hn1 : (n : Int) <= left
 · have h2 : ¬ left - (n : Int) < 0:=by omega
   have hn2 : n <= 1048576:=by omega
   go_enter Tryz.func39,Tryz.ntmps39
   go_wp2_with fail
   go_loopw [1,5] (fun q i wr => ∃ (j : Nat) (r : Int),j <= n /\ i = .int .i64 j /\ q = .int .i64 r /\ 0 <= r /\ r <= left /\ Hid (∀ t,t < j -> (l.getD t imD).nm.size <= 1048576 /\ (l.getD t imD).bd.size <= 1048576) /\ Below w.heap.size w wr) (fun _ i _ => n - (intOf i).toNat)
   case atStart => exact ⟨0,_,Nat.zero_le _,rfl,rfl,by omega,by omega,qH (fun t ht => absurd ht (by omega)),Below.refl _ _⟩
   case round =>
    obtain ⟨j,r,hj,rfl,rfl,hr0,hr1,HA,hB⟩:=hrel
    by_cases hlt : j < n
    · obtain ⟨g,o,rfl,hg,hc0,hc1,hc2⟩:=h.at hlt
      have a0:=(hB.cell (p:=⟨g,o + j * 3,none⟩) hg).trans hc0
      have a1:=(hB.cell (p:=⟨g,o + j * 3 + 1,none⟩) hg).trans hc1
      have a2:=(hB.cell (p:=⟨g,o + j * 3 + 2,none⟩) hg).trans hc2
      have hsj:=HS.out j hlt
      have HA2 : Hid (((l.getD j imD).nm.size <= 1048576 /\ (l.getD j imD).bd.size <= 1048576) -> ∀ t,t < j + 1 -> (l.getD t imD).nm.size <= 1048576 /\ (l.getD t imD).bd.size <= 1048576):=qH (fun hx t ht => by
       by_cases e : t = j
       · rw [e];exact hx
       · exact HA.out t (by omega))
      have HB:=qH hB
      generalize (l.getD j imD).nm = q0 at *
      generalize (l.getD j imD).tm = q1 at *
      generalize (l.getD j imD).bd = q2 at *
      clear hc0 hc1 hc2 hB
      go_wp2_with fail
      refine (szItem_any q0 q1 q2 r _ hsj.1 hsj.2 hr0 (by omega)).mono ?_
      rintro e w5 ⟨r',rfl,hr,hb⟩
      have HB5:=qH (HB.out.trans (hb.mono HB.out.size))
      clear hb a0 a1 a2
      rcases hr with rfl | ⟨hp0,hp1,hps⟩
      · go_wp2_with fail
        go_ret
        exact ⟨-1,rfl,.inl rfl,HB5.out⟩
      · have hnn : ¬ r' < 0:=by omega
        have HA3:=qH (HA2.out hps)
        clear hps
        go_wp2_with fail
        go_roundw
        case rel => exact ⟨j + 1,r',by omega,by go_num,rfl,hp0,by omega,HA3,HB5.out⟩
        case measure => simp [intOf] <;> omega
    · obtain rfl : j = n:=by omega
      have HB:=qH hB
      clear hB
      go_wp2_with fail
      go_ret
      exact ⟨r,rfl,.inr ⟨hr0,hr1,hn2,HA.out⟩,HB.out⟩
 · have h2 : left - (n : Int) < 0:=by omega
   go_enter Tryz.func39,Tryz.ntmps39
   go_wp2_with fail
   go_ret
   exact ⟨-1,rfl,.inl rfl,Below.refl _ _⟩
def mkIm (k j : Nat) : Im:=⟨mkt (k + 3 * j),(k : Int) + 3 * (j : Int) + 1,mkt (k + 3 * j + 2)⟩
def marksIm (k n : Nat) : List Im:=(List.range n).map (mkIm k)
theorem marksIm_length (k n : Nat) : (marksIm k n).length = n:=by simp [marksIm]
theorem marksIm_getD {k n j : Nat} (h : j < n) : (marksIm k n).getD j imD = mkIm k j:=by simp [marksIm,List.getD,h]
theorem markItemS_any (a : Option Addr) (base n cap : Nat) (zs : List Im) (k0 : Nat) (w : World) (h : w.ownsRow base 62 imE.k (.slice a n cap) n (imE.flat zs)) (hn : n <= 1048576) (hk0 : 0 < k0) (hk1 : k0 <= 1099511627776) :
 Calls Tryz.prog 68 #[.slice a n cap,.int .i64 (k0 : Int)] w fun e w' => e = .returned (.int .i64 ((k0 : Int) + 3 * (n : Int))) /\ w'.ownsRow base 62 imE.k (.slice a n cap) n (imE.flat (marksIm k0 n)) /\ w.grownBy w' (Value.slice a n cap).ownBlock:=by
 have hl:=ImR.olen h
 have HML:=qH (marksIm_length k0 n)
 have HZL:=qH hl
 clear hl
 go_enter Tryz.func68,Tryz.ntmps68
 go_wp2_with fail
 go_loopw [1,5] (fun k i wr => ∃ j : Nat,j <= n /\ i = .int .i64 j /\ k = .int .i64 ((k0 : Int) + 3 * (j : Int)) /\ wr.ownsRow base 62 imE.k (.slice a n cap) n (imE.flat (mixX (marksIm k0 n) zs j)) /\ w.grownBy wr (Value.slice a n cap).ownBlock) (fun _ i _ => n - (intOf i).toNat)
 case atStart => exact ⟨0,Nat.zero_le _,rfl,by simp,by rw [mixX_zero];exact h,⟨rfl,rfl,rfl,Nat.le_refl _,fun _ _ _ => rfl⟩⟩
 case round =>
  obtain ⟨j,hj,rfl,rfl,hown,hg⟩:=hrel
  by_cases hlt : j < n
  · obtain ⟨g,c,hv,_,hgl⟩:=hown.form (by omega)
    simp only [Value.slice.injEq] at hv
    obtain ⟨rfl,_,rfl⟩:=hv
    have HMT0 : Hid (∀ (r : Int) (u : World),r = (k0 : Int) + 3 * (j : Int) -> Calls Tryz.prog 37 #[.int .i64 r] u fun e w' => e = .returned (.string (mkt (k0 + 3 * j))) /\ Below u.heap.size u w'):=qH (fun r u hr => by
     have hm:=markText_any (k0 + 3 * j) (w:=u) (by omega) (by omega)
     rwa [show ((k0 + 3 * j : Nat) : Int) = r by omega] at hm)
    have HMT2 : Hid (∀ (r : Int) (u : World),r = (k0 : Int) + 3 * (j : Int) + 1 + 1 -> Calls Tryz.prog 37 #[.int .i64 r] u fun e w' => e = .returned (.string (mkt (k0 + 3 * j + 2))) /\ Below u.heap.size u w'):=qH (fun r u hr => by
     have hm:=markText_any (k0 + 3 * j + 2) (w:=u) (by omega) (by omega)
     rwa [show ((k0 + 3 * j + 2 : Nat) : Int) = r by omega] at hm)
    have HST:=qH (mixX_set imD (zs:=marksIm k0 n) (ys:=zs) (k:=j) (by rw [HML.out,HZL.out]) (by rw [HML.out];exact hlt))
    rw [marksIm_getD hlt] at HST
    have HMJ : Hid (j < (mixX (marksIm k0 n) zs j).length):=qH (by rw [mixX_length (by rw [HML.out,HZL.out]),HML.out];exact hlt)
    have gd : ∀ (ps : List Im) (p q : Im),((ps.set j p).set j q) = ps.set j q:=fun ps p q => by rw [List.set_set]
    have ge : ∀ p : Im,((mixX (marksIm k0 n) zs j).set j p).getD j imD = p:=fun p => by simp [List.getD,HMJ.out]
    have GD:=qH gd
    have GE:=qH ge
    clear gd ge h
    have HO0:=qH hown
    have HG0:=qH hg
    clear hown hg
    go_wp2_with fail
    refine (HMT0.out _ _ (by omega)).mono ?_
    rintro e w5 ⟨rfl,hb⟩
    have hown5:=own_below HO0.out hb
    have hg5:=grown_trans HG0.out (fg_below hb)
    clear hb HO0 HG0
    obtain ⟨g',o',hge,_,x0,x1,x2⟩:=(ImR.own hown5).at hlt
    simp only [Option.some.injEq,Addr.mk.injEq,and_true] at hge
    obtain ⟨rfl,rfl⟩:=hge
    rw [Nat.zero_add] at x0 x1 x2
    have y0:=hown5.frozenAt (j * 3)
    have y1:=hown5.frozenAt (j * 3 + 1)
    clear x2
    have s0:=ImR.set0 hown5 hlt (mkt (k0 + 3 * j))
    have s1:=ImR.set1 s0.1 hlt ((k0 : Int) + 3 * (j : Int) + 1)
    rw [GD.out,GE.out] at s1
    have HO2:=qH s1.1
    have HG2:=qH (grown_trans (grown_trans hg5 s0.2) s1.2)
    clear s1 s0
    clear hown5 hg5
    go_wp2_with fail
    clear x0 y0 x1 y1
    refine (HMT2.out _ _ (by omega)).mono ?_
    rintro e w5 ⟨rfl,hb⟩
    have hown5:=own_below HO2.out hb
    have hg5:=grown_trans HG2.out (fg_below hb)
    clear hb HO2 HG2
    obtain ⟨g',o',hge,_,x0,x1,x2⟩:=(ImR.own hown5).at hlt
    simp only [Option.some.injEq,Addr.mk.injEq,and_true] at hge
    obtain ⟨rfl,rfl⟩:=hge
    rw [Nat.zero_add] at x0 x1 x2
    have y2:=hown5.frozenAt (j * 3 + 2)
    clear x0 x1
    have s2:=ImR.set2 hown5 hlt (mkt (k0 + 3 * j + 2))
    rw [GD.out,GE.out] at s2
    have HO3:=qH s2.1
    have HG3:=qH (grown_trans hg5 s2.2)
    clear s2
    clear hown5 hg5
    go_wp2_with fail
    go_roundw
    case rel => exact ⟨j + 1,by omega,by go_num,by go_num,by rw [<- HST.out];exact HO3.out,HG3.out⟩
    case measure => simp [intOf] <;> omega
  · obtain rfl : j = n:=by omega
    have hm : mixX (marksIm k0 j) zs j = marksIm k0 j:=by
     have:=mixX_all (zs:=marksIm k0 j) (ys:=zs) (by rw [HML.out,HZL.out])
     rwa [HML.out] at this
    rw [hm] at hown
    have HO:=qH hown
    have HG:=qH hg
    clear hown hg hm h
    go_wp2_with fail
    go_ret
    exact ⟨rfl,HO.out,HG.out⟩
structure Dd where
 kd : Int
 gn : Int
 nd : Int
 mn : Int
 ck : Int
 no : Int
 lk : ByteArray
 nm : ByteArray
 tm : Int
 bd : ByteArray
def ddD : Dd:=⟨0,0,0,0,0,0,ByteArray.empty,ByteArray.empty,0,ByteArray.empty⟩
def ddE : Enc Dd:=⟨10,fun e => [.int .i64 e.kd,.int .i64 e.gn,.int .i64 e.nd,.int .i64 e.mn,.int .i64 e.ck,.int .i64 e.no,.string e.lk,.string e.nm,.int .i64 e.tm,.string e.bd],fun _ => rfl,by intro x v hv;simp at hv;rcases hv with rfl | rfl | rfl | rfl | rfl | rfl | rfl | rfl | rfl | rfl <;> rfl⟩
theorem toConf_any (q0 q1 q2 q3 : Int) (w : World) :
 Calls Tryz.prog 50 #[.agg #[.int .i64 q0,.int .i64 q1,.int .i64 q2,.int .i64 q3]] w fun e w' => e = .returned (.agg #[.int .i64 q0,.int .i64 q1,.int .i64 q2,.int .i64 q3]) /\ Below w.heap.size w w':=by
 go_enter Tryz.func50,Tryz.ntmps50
 go_wp2_with fail
 exact bodyPost_ret (v:=.agg #[.int .i64 q0,.int .i64 q1,.int .i64 q2,.int .i64 q3]) (by simp [results,Tryz.results50,go_sem]) rfl ⟨rfl,by repeat' (first | exact Below.refl _ _ | refine Below.alloc ?_ (by first | exact Nat.le_refl _ | (simp;done) | (simp;omega)) _ | refine Below.setCell ?_ (by first | exact Nat.le_refl _ | (simp;done) | (simp;omega)) _)⟩
theorem eqConf_same (q0 q1 q2 q3 : Int) (w : World) :
 Calls Tryz.prog 63 #[.agg #[.int .i64 q0,.int .i64 q1,.int .i64 q2,.int .i64 q3],.agg #[.int .i64 q0,.int .i64 q1,.int .i64 q2,.int .i64 q3]] w fun e w' => e = .returned (.bool true) /\ Below w.heap.size w w':=by
 go_enter Tryz.func63,Tryz.ntmps63
 go_wp2_with fail
 go_ret
 exact ⟨rfl,((Below.refl _ _).alloc (Nat.le_refl _) _).alloc (by simp) _⟩
structure Bk where
 c0 : Int
 c1 : Int
 c2 : Int
 c3 : Int
 ts : List Tm
 is : List Im
structure BkR (w : World) (a1 : Option Addr) (n1 a3 : Nat) (a2 : Option Addr) (n2 a4 : Nat) (ts : List Tm) (is : List Im) : Prop where
 t : TmR w a1 n1 a3 ts
 i : ImR w a2 n2 a4 is
theorem BkR.below {w w' : World} {a1 a2 : Option Addr} {n1 a3 n2 a4 : Nat} {ts : List Tm} {is : List Im} (h : BkR w a1 n1 a3 a2 n2 a4 ts is) (hb : Below w.heap.size w w') : BkR w' a1 n1 a3 a2 n2 a4 ts is:=⟨SR.below h.t hb,SR.below h.i hb⟩
structure BkO (w : World) (base : Nat) (a1 : Option Addr) (n1 a3 : Nat) (a2 : Option Addr) (n2 a4 : Nat) (ts : List Tm) (is : List Im) : Prop where
 t : w.ownsRow base 97 tmE.k (.slice a1 n1 a3) n1 (tmE.flat ts)
 i : w.ownsRow base 62 imE.k (.slice a2 n2 a4) n2 (imE.flat is)
theorem BkO.below {w w' : World} {base : Nat} {a1 a2 : Option Addr} {n1 a3 n2 a4 : Nat} {ts : List Tm} {is : List Im} (h : BkO w base a1 n1 a3 a2 n2 a4 ts is) (hb : Below w.heap.size w w') : BkO w' base a1 n1 a3 a2 n2 a4 ts is:=⟨own_below h.t hb,own_below h.i hb⟩
theorem BkO.read {w : World} {base : Nat} {a1 a2 : Option Addr} {n1 a3 n2 a4 : Nat} {ts : List Tm} {is : List Im} (h : BkO w base a1 n1 a3 a2 n2 a4 ts is) : BkR w a1 n1 a3 a2 n2 a4 ts is:=⟨TmR.own h.t,ImR.own h.i⟩
theorem BkO.mono {w : World} {base base' : Nat} {a1 a2 : Option Addr} {n1 a3 n2 a4 : Nat} {ts : List Tm} {is : List Im} (h : BkO w base a1 n1 a3 a2 n2 a4 ts is) (hb : base' <= base) : BkO w base' a1 n1 a3 a2 n2 a4 ts is:=⟨own_mono h.t hb,own_mono h.i hb⟩
theorem own_types {w : World} {base base' : Nat} {e e' : TypeId} {size size' : Nat} {v u : Value} {n m : Nat} {xs ys : List Value} (h : w.ownsRow base e size v n xs) (k : w.ownsRow base' e' size' u m ys) (he : e ≠ e') : Disj v u:=by
 intro g hg hu
 rcases h.2 with ⟨rfl,_⟩ | ⟨g1,c1,cur1,rfl,_,hh1,_⟩
 · simp [Value.ownBlock] at hg
 · rcases k.2 with ⟨rfl,_⟩ | ⟨g2,c2,cur2,rfl,_,hh2,_⟩
   · simp [Value.ownBlock] at hu
   · simp only [Value.ownBlock,Option.some.injEq] at hg hu
     subst hg
     subst hu
     rw [hh1] at hh2
     simp only [Option.some.injEq,Obj.cells.injEq] at hh2
     exact he hh2.2.1
def NewBook (c0 c1 c2 c3 : Int) (ts : List Tm) (is : List Im) (w : World) (e : Ending) (w' : World) : Prop :=
 ∃ a1 n1 a3 a2 n2 a4,e = .returned (.agg #[.int .i64 c0,.int .i64 c1,.int .i64 c2,.int .i64 c3,.slice a1 n1 a3,.slice a2 n2 a4]) /\ BkO w' w.heap.size a1 n1 a3 a2 n2 a4 ts is /\ Below w.heap.size w w'
theorem eqBook_same (c0 c1 c2 c3 : Int) (a1 a2 b1 b2 : Option Addr) (n1 n2 a3 a4 b3 b4 : Nat) (ts : List Tm) (is : List Im) (w : World) (h : BkR w a1 n1 a3 a2 n2 a4 ts is) (k : BkR w b1 n1 b3 b2 n2 b4 ts is) (hn1 : n1 <= 1048576) (hn2 : n2 <= 1048576) :
 Calls Tryz.prog 31 #[.agg #[.int .i64 c0,.int .i64 c1,.int .i64 c2,.int .i64 c3,.slice a1 n1 a3,.slice a2 n2 a4],.agg #[.int .i64 c0,.int .i64 c1,.int .i64 c2,.int .i64 c3,.slice b1 n1 b3,.slice b2 n2 b4]] w fun e w' => e = .returned (.bool true) /\ Below w.heap.size w w':=by
 obtain ⟨W,hW⟩ : ∃ W,W = (w.alloc (.cells #[.int .i64 c0,.int .i64 c1,.int .i64 c2,.int .i64 c3,.slice a1 n1 a3,.slice a2 n2 a4] 43)).alloc (.cells #[.int .i64 c0,.int .i64 c1,.int .i64 c2,.int .i64 c3,.slice b1 n1 b3,.slice b2 n2 b4] 43):=⟨_,rfl⟩
 have hb0 : Below w.heap.size w W:=by rw [hW];repeat' (first | exact Below.refl _ _ | refine Below.alloc ?_ (by first | exact Nat.le_refl _ | (simp;done) | (simp;omega)) _)
 have hA : BoxC W (w.heap.size) [.int .i64 c0,.int .i64 c1,.int .i64 c2,.int .i64 c3,.slice a1 n1 a3,.slice a2 n2 a4]:=by rw [hW];exact ((BoxC.made w #[.int .i64 c0,.int .i64 c1,.int .i64 c2,.int .i64 c3,.slice a1 n1 a3,.slice a2 n2 a4] 43).alloc (.cells #[.int .i64 c0,.int .i64 c1,.int .i64 c2,.int .i64 c3,.slice b1 n1 b3,.slice b2 n2 b4] 43))
 have hB : BoxC W (w.heap.size + 1) [.int .i64 c0,.int .i64 c1,.int .i64 c2,.int .i64 c3,.slice b1 n1 b3,.slice b2 n2 b4]:=by rw [hW];have:=(BoxC.made (w.alloc (.cells #[.int .i64 c0,.int .i64 c1,.int .i64 c2,.int .i64 c3,.slice a1 n1 a3,.slice a2 n2 a4] 43)) #[.int .i64 c0,.int .i64 c1,.int .i64 c2,.int .i64 c3,.slice b1 n1 b3,.slice b2 n2 b4] 43);rwa [World.size_alloc] at this
 have hR:=h.below hb0
 have kR:=k.below hb0
 clear h k
 go_enter Tryz.func31,Tryz.ntmps31
 go_wp2_with fail
 rw [<- hW]
 clear hW
 refine (eqConf_same c0 c1 c2 c3 _).mono ?_
 rintro e w1 ⟨rfl,hb⟩
 have hA1:=hA.below hb
 have hB1:=hB.below hb
 have hR1:=hR.below hb
 have kR1:=kR.below hb
 have hb1:=hb0.trans (hb.mono hb0.size)
 clear hb hA hB hR kR hb0
 have a4x:=hA1.cell 4 _ rfl
 have b4x:=hB1.cell 4 _ rfl
 have HA:=qH hA1
 have HB:=qH hB1
 have HR:=qH hR1
 have KR:=qH kR1
 have HW:=qH hb1
 clear hA1 hB1 hR1 kR1 hb1
 go_wp2_with fail
 have hA:=HA.out
 have hB:=HB.out
 have hR:=HR.out
 have kR:=KR.out
 have hb0:=HW.out
 clear HA HB HR KR HW a4x b4x
 refine (eqTermS_same a1 b1 n1 a3 b3 ts _ hR.t kR.t hn1).mono ?_
 rintro e w1 ⟨rfl,hb⟩
 have hA1:=hA.below hb
 have hB1:=hB.below hb
 have hR1:=hR.below hb
 have kR1:=kR.below hb
 have hb1:=hb0.trans (hb.mono hb0.size)
 clear hb hA hB hR kR hb0
 have a5x:=hA1.cell 5 _ rfl
 have b5x:=hB1.cell 5 _ rfl
 have HA:=qH hA1
 have HB:=qH hB1
 have HR:=qH hR1
 have KR:=qH kR1
 have HW:=qH hb1
 clear hA1 hB1 hR1 kR1 hb1
 go_wp2_with fail
 have hA:=HA.out
 have hB:=HB.out
 have hR:=HR.out
 have kR:=KR.out
 have hb0:=HW.out
 clear HA HB HR KR HW a5x b5x
 refine (eqItemS_same a2 b2 n2 a4 b4 is _ hR.i kR.i hn2).mono ?_
 rintro e w1 ⟨rfl,hb⟩
 have hA1:=hA.below hb
 have hB1:=hB.below hb
 have hR1:=hR.below hb
 have kR1:=kR.below hb
 have hb1:=hb0.trans (hb.mono hb0.size)
 clear hb hA hB hR kR hb0
 have HA:=qH hA1
 have HB:=qH hB1
 have HR:=qH hR1
 have KR:=qH kR1
 have HW:=qH hb1
 clear hA1 hB1 hR1 kR1 hb1
 go_wp2_with fail
 go_ret
 exact ⟨rfl,HW.out⟩
def LeftBook (n1 n2 : Nat) (ts : List Tm) (is : List Im) (left : Int) (w : World) (e : Ending) (w' : World) : Prop :=
 ∃ r : Int,e = .returned (.int .i64 r) /\ ((r = -1) ∨ (0 <= r /\ r <= left /\ (n1 <= 1048576 /\ n2 <= 1048576) /\ (∀ t,t < n1 -> (ts.getD t tmD).lk.size <= 1048576) /\ ∀ t,t < n2 -> (is.getD t imD).nm.size <= 1048576 /\ (is.getD t imD).bd.size <= 1048576)) /\ Below w.heap.size w w'
theorem szBook_any (c0 c1 c2 c3 : Int) (a1 a2 : Option Addr) (n1 n2 a3 a4 : Nat) (ts : List Tm) (is : List Im) (left : Int) (w : World) (h : BkR w a1 n1 a3 a2 n2 a4 ts is) (hn1 : n1 <= 9223372036854775807) (hn2 : n2 <= 9223372036854775807) (hs1 : ∀ t,t < n1 -> (ts.getD t tmD).lk.size <= maxLen) (hs2 : ∀ t,t < n2 -> (is.getD t imD).nm.size <= maxLen /\ (is.getD t imD).bd.size <= maxLen) (hl0 : 0 <= left) (hl1 : left <= 1048576) :
 Calls Tryz.prog 14 #[.agg #[.int .i64 c0,.int .i64 c1,.int .i64 c2,.int .i64 c3,.slice a1 n1 a3,.slice a2 n2 a4],.int .i64 left] w (LeftBook n1 n2 ts is left w):=by
 obtain ⟨W,hW⟩ : ∃ W,W = w.alloc (.cells #[.int .i64 c0,.int .i64 c1,.int .i64 c2,.int .i64 c3,.slice a1 n1 a3,.slice a2 n2 a4] 29):=⟨_,rfl⟩
 have hb0 : Below w.heap.size w W:=by rw [hW];repeat' (first | exact Below.refl _ _ | refine Below.alloc ?_ (by first | exact Nat.le_refl _ | (simp;done) | (simp;omega)) _)
 have hA : BoxC W (w.heap.size) [.int .i64 c0,.int .i64 c1,.int .i64 c2,.int .i64 c3,.slice a1 n1 a3,.slice a2 n2 a4]:=by rw [hW];exact (BoxC.made w #[.int .i64 c0,.int .i64 c1,.int .i64 c2,.int .i64 c3,.slice a1 n1 a3,.slice a2 n2 a4] 29)
 have hR:=h.below hb0
 clear h
 have HS1:=qH hs1
 have HS2:=qH hs2
 clear hs1 hs2
 go_enter Tryz.func14,Tryz.ntmps14
 go_wp2_with fail
 rw [<- hW]
 clear hW
 refine (szTermS_any a1 n1 a3 ts left _ hR.t hn1 HS1.out hl0 hl1).mono ?_
 rintro e w1 ⟨r,rfl,hr,hb⟩
 have a5x:=(hA.below hb).cell 5 _ rfl
 have HR:=qH (hR.below hb)
 have HW:=qH (hb0.trans (hb.mono hb0.size))
 clear hb hA hR hb0
 rcases hr with rfl | ⟨r0,r1,s1,s2⟩
 · go_wp2_with fail
   go_ret
   exact ⟨-1,rfl,.inl rfl,HW.out⟩
 · have hnn : ¬ r < 0:=by omega
   have HS3:=qH s2
   clear s2
   go_wp2_with fail
   refine (szItemS_any a2 n2 a4 is r _ HR.out.i hn2 HS2.out r0 (by omega)).mono ?_
   rintro e w2 ⟨r2,rfl,hr,hb⟩
   have HW2:=qH (HW.out.trans (hb.mono HW.out.size))
   clear hb a5x
   rcases hr with rfl | ⟨t0,t1,t2,t3⟩
   · go_wp2_with fail
     go_ret
     exact ⟨-1,rfl,.inl rfl,HW2.out⟩
   · have hn2 : ¬ r2 < 0:=by omega
     have HS4:=qH t3
     clear t3
     go_wp2_with fail
     go_ret
     exact ⟨r2,rfl,.inr ⟨t0,by omega,⟨s1,t2⟩,HS3.out,HS4.out⟩,HW2.out⟩
theorem toBook_any (c0 c1 c2 c3 : Int) (a1 a2 : Option Addr) (n1 n2 a3 a4 : Nat) (ts : List Tm) (is : List Im) (w : World) (h : BkR w a1 n1 a3 a2 n2 a4 ts is) (hn1 : n1 <= 1048576) (hn2 : n2 <= 1048576) :
 Calls Tryz.prog 22 #[.agg #[.int .i64 c0,.int .i64 c1,.int .i64 c2,.int .i64 c3,.slice a1 n1 a3,.slice a2 n2 a4]] w fun e w' => ∃ b1 b3 b2 b4,e = .returned (.agg #[.int .i64 c0,.int .i64 c1,.int .i64 c2,.int .i64 c3,.slice b1 n1 b3,.slice b2 n2 b4]) /\ BkO w' w.heap.size b1 n1 b3 b2 n2 b4 ts is /\ Below w.heap.size w w':=by
 obtain ⟨W,hW⟩ : ∃ W,W = ((w.alloc (.cells #[.int .i64 c0,.int .i64 c1,.int .i64 c2,.int .i64 c3,.slice a1 n1 a3,.slice a2 n2 a4] 29)).alloc (.cells #[.int .i64 0,.int .i64 0,.int .i64 0,.int .i64 0,.slice none 0 0,.slice none 0 0] 43)).alloc (.cells #[.int .i64 0,.int .i64 0,.int .i64 0,.int .i64 0,.slice none 0 0,.slice none 0 0] 43):=⟨_,rfl⟩
 have hb0 : Below w.heap.size w W:=by rw [hW];repeat' (first | exact Below.refl _ _ | refine Below.alloc ?_ (by first | exact Nat.le_refl _ | (simp;done) | (simp;omega)) _)
 have hA : BoxC W (w.heap.size) [.int .i64 c0,.int .i64 c1,.int .i64 c2,.int .i64 c3,.slice a1 n1 a3,.slice a2 n2 a4]:=by rw [hW];exact (((BoxC.made w #[.int .i64 c0,.int .i64 c1,.int .i64 c2,.int .i64 c3,.slice a1 n1 a3,.slice a2 n2 a4] 29).alloc (.cells #[.int .i64 0,.int .i64 0,.int .i64 0,.int .i64 0,.slice none 0 0,.slice none 0 0] 43)).alloc (.cells #[.int .i64 0,.int .i64 0,.int .i64 0,.int .i64 0,.slice none 0 0,.slice none 0 0] 43))
 have hC : BoxC W (w.heap.size + 1) [.int .i64 0,.int .i64 0,.int .i64 0,.int .i64 0,.slice none 0 0,.slice none 0 0]:=by rw [hW];have:=((BoxC.made (w.alloc (.cells #[.int .i64 c0,.int .i64 c1,.int .i64 c2,.int .i64 c3,.slice a1 n1 a3,.slice a2 n2 a4] 29)) #[.int .i64 0,.int .i64 0,.int .i64 0,.int .i64 0,.slice none 0 0,.slice none 0 0] 43).alloc (.cells #[.int .i64 0,.int .i64 0,.int .i64 0,.int .i64 0,.slice none 0 0,.slice none 0 0] 43));rwa [World.size_alloc] at this
 have hB : BoxC W (w.heap.size + 1 + 1) [.int .i64 0,.int .i64 0,.int .i64 0,.int .i64 0,.slice none 0 0,.slice none 0 0]:=by rw [hW];have:=(BoxC.made ((w.alloc (.cells #[.int .i64 c0,.int .i64 c1,.int .i64 c2,.int .i64 c3,.slice a1 n1 a3,.slice a2 n2 a4] 29)).alloc (.cells #[.int .i64 0,.int .i64 0,.int .i64 0,.int .i64 0,.slice none 0 0,.slice none 0 0] 43)) #[.int .i64 0,.int .i64 0,.int .i64 0,.int .i64 0,.slice none 0 0,.slice none 0 0] 43);rwa [World.size_alloc,World.size_alloc] at this
 go_enter Tryz.func22,Tryz.ntmps22
 go_wp2_with fail
 rw [<- hW]
 clear hW
 have HR:=qH h
 clear h
 refine (toConf_any c0 c1 c2 c3 _).mono ?_
 rintro e w1 ⟨rfl,hb⟩
 have hA1:=hA.below hb
 have hB1:=hB.below hb
 have hC1:=hC.below hb
 have hb1:=hb0.trans (hb.mono hb0.size)
 clear hb hA hB hC hb0
 have a4x:=hA1.cell 4 _ rfl
 have b0x:=hB1.cell 0 _ rfl
 have f0x:=hB1.free 0
 have b1x:=hB1.cell 1 _ rfl
 have f1x:=hB1.free 1
 have b2x:=hB1.cell 2 _ rfl
 have f2x:=hB1.free 2
 have b3x:=hB1.cell 3 _ rfl
 have f3x:=hB1.free 3
 obtain ⟨V,hV⟩ : ∃ V,V = (((w1.setCell ⟨w.heap.size + 1 + 1,0,none⟩ (.int .i64 c0)).setCell ⟨w.heap.size + 1 + 1,1,none⟩ (.int .i64 c1)).setCell ⟨w.heap.size + 1 + 1,2,none⟩ (.int .i64 c2)).setCell ⟨w.heap.size + 1 + 1,3,none⟩ (.int .i64 c3):=⟨_,rfl⟩
 have HA : Hid (BoxC V w.heap.size [.int .i64 c0,.int .i64 c1,.int .i64 c2,.int .i64 c3,.slice a1 n1 a3,.slice a2 n2 a4]):=qH (by rw [hV];exact ((((hA1.other ⟨w.heap.size + 1 + 1,0,none⟩ (.int .i64 c0) (by simp <;> omega)).other ⟨w.heap.size + 1 + 1,1,none⟩ (.int .i64 c1) (by simp <;> omega)).other ⟨w.heap.size + 1 + 1,2,none⟩ (.int .i64 c2) (by simp <;> omega)).other ⟨w.heap.size + 1 + 1,3,none⟩ (.int .i64 c3) (by simp <;> omega)))
 have HC : Hid (BoxC V (w.heap.size + 1) [.int .i64 0,.int .i64 0,.int .i64 0,.int .i64 0,.slice none 0 0,.slice none 0 0]):=qH (by rw [hV];exact ((((hC1.other ⟨w.heap.size + 1 + 1,0,none⟩ (.int .i64 c0) (by simp <;> omega)).other ⟨w.heap.size + 1 + 1,1,none⟩ (.int .i64 c1) (by simp <;> omega)).other ⟨w.heap.size + 1 + 1,2,none⟩ (.int .i64 c2) (by simp <;> omega)).other ⟨w.heap.size + 1 + 1,3,none⟩ (.int .i64 c3) (by simp <;> omega)))
 have HB : Hid (BoxC V (w.heap.size + 1 + 1) [.int .i64 c0,.int .i64 c1,.int .i64 c2,.int .i64 c3,.slice none 0 0,.slice none 0 0]):=qH (by rw [hV];exact ((((hB1.set (j:=0) (by simp) (.int .i64 c0)).set (j:=1) (by simp) (.int .i64 c1)).set (j:=2) (by simp) (.int .i64 c2)).set (j:=3) (by simp) (.int .i64 c3)))
 have HW : Hid (Below w.heap.size w V):=qH (by rw [hV];exact ((((hb1.setCell (p:=⟨w.heap.size + 1 + 1,0,none⟩) (by dsimp only;omega) (.int .i64 c0)).setCell (p:=⟨w.heap.size + 1 + 1,1,none⟩) (by dsimp only;omega) (.int .i64 c1)).setCell (p:=⟨w.heap.size + 1 + 1,2,none⟩) (by dsimp only;omega) (.int .i64 c2)).setCell (p:=⟨w.heap.size + 1 + 1,3,none⟩) (by dsimp only;omega) (.int .i64 c3)))
 clear hA1 hB1 hC1 hb1
 go_wp2_with fail
 rw [<- hV]
 clear hV a4x b0x f0x b1x f1x b2x f2x b3x f3x
 have hVs : w.heap.size + 1 + 1 < V.heap.size:=HB.out.lt
 refine (toTermS_any a1 n1 a3 ts _ (HR.out.below HW.out).t hn1).mono ?_
 rintro e w2 ⟨b1,b3,rfl,ho,hb⟩
 have HN : Hid (∀ q,(Value.slice b1 n1 b3).ownBlock = some q -> w.heap.size + 1 + 1 < q):=qH (fun q hq => by have:=(ho.lt q hq).1;omega)
 have hA1:=HA.out.below hb
 have hB1:=HB.out.below hb
 have hC1:=HC.out.below hb
 have hb1:=HW.out.trans (hb.mono HW.out.size)
 clear hb HA HB HC HW
 have a5x:=hA1.cell 5 _ rfl
 have b4x:=hB1.cell 4 _ rfl
 have f4x:=hB1.free 4
 obtain ⟨X,hX⟩ : ∃ X,X = w2.setCell ⟨w.heap.size + 1 + 1,4,none⟩ (.slice b1 n1 b3):=⟨_,rfl⟩
 have HC : Hid (BoxC X (w.heap.size + 1) [.int .i64 0,.int .i64 0,.int .i64 0,.int .i64 0,.slice none 0 0,.slice none 0 0]):=qH (by rw [hX];exact (hC1.other ⟨w.heap.size + 1 + 1,4,none⟩ (.slice b1 n1 b3) (by simp <;> omega)))
 have HB : Hid (BoxC X (w.heap.size + 1 + 1) [.int .i64 c0,.int .i64 c1,.int .i64 c2,.int .i64 c3,.slice b1 n1 b3,.slice none 0 0]):=qH (by rw [hX];exact (hB1.set (j:=4) (by simp) (.slice b1 n1 b3)))
 have HW : Hid (Below w.heap.size w X):=qH (by rw [hX];exact (hb1.setCell (p:=⟨w.heap.size + 1 + 1,4,none⟩) (by dsimp only;omega) (.slice b1 n1 b3)))
 have HT : Hid (X.ownsRow w.heap.size 97 tmE.k (.slice b1 n1 b3) n1 (tmE.flat ts)):=qH (by rw [hX];exact (own_other (own_mono ho (by omega)) (b:=w.heap.size + 1 + 1) (fun q hq => by have:=HN.out q hq;omega) ⟨w.heap.size + 1 + 1,4,none⟩ (.slice b1 n1 b3) rfl))
 clear hA1 hB1 hC1 hb1 ho
 go_wp2_with fail
 rw [<- hX]
 clear hX a5x b4x f4x hVs V
 have hVs : w.heap.size + 1 + 1 < X.heap.size:=HB.out.lt
 refine (toItemS_any a2 n2 a4 is _ (HR.out.below HW.out).i hn2).mono ?_
 rintro e w3 ⟨b2,b4,rfl,ho,hb⟩
 have HN2 : Hid (∀ q,(Value.slice b2 n2 b4).ownBlock = some q -> w.heap.size + 1 + 1 < q):=qH (fun q hq => by have:=(ho.lt q hq).1;omega)
 have hB1:=HB.out.below hb
 have hC1:=HC.out.below hb
 have hb1:=HW.out.trans (hb.mono HW.out.size)
 have hT1:=own_below HT.out hb
 clear hb HB HC HW HT
 have b0x:=hB1.cell 0 _ rfl
 have d0x:=hC1.cell 0 _ rfl
 have e0x:=hC1.free 0
 have b1x:=hB1.cell 1 _ rfl
 have d1x:=hC1.cell 1 _ rfl
 have e1x:=hC1.free 1
 have b2x:=hB1.cell 2 _ rfl
 have d2x:=hC1.cell 2 _ rfl
 have e2x:=hC1.free 2
 have b3x:=hB1.cell 3 _ rfl
 have d3x:=hC1.cell 3 _ rfl
 have e3x:=hC1.free 3
 have b4x:=hB1.cell 4 _ rfl
 have d4x:=hC1.cell 4 _ rfl
 have e4x:=hC1.free 4
 have b5x:=hB1.cell 5 _ rfl
 have d5x:=hC1.cell 5 _ rfl
 have e5x:=hC1.free 5
 have f5x:=hB1.free 5
 obtain ⟨Y,hY⟩ : ∃ Y,Y = ((((((w3.setCell ⟨w.heap.size + 1 + 1,5,none⟩ (.slice b2 n2 b4)).setCell ⟨w.heap.size + 1,0,none⟩ (.int .i64 c0)).setCell ⟨w.heap.size + 1,1,none⟩ (.int .i64 c1)).setCell ⟨w.heap.size + 1,2,none⟩ (.int .i64 c2)).setCell ⟨w.heap.size + 1,3,none⟩ (.int .i64 c3)).setCell ⟨w.heap.size + 1,4,none⟩ (.slice b1 n1 b3)).setCell ⟨w.heap.size + 1,5,none⟩ (.slice b2 n2 b4):=⟨_,rfl⟩
 have hC5 : BoxC Y (w.heap.size + 1) [.int .i64 c0,.int .i64 c1,.int .i64 c2,.int .i64 c3,.slice b1 n1 b3,.slice b2 n2 b4]:=by rw [hY];exact (((((((hC1.other ⟨w.heap.size + 1 + 1,5,none⟩ (.slice b2 n2 b4) (by simp <;> omega)).set (j:=0) (by simp) (.int .i64 c0)).set (j:=1) (by simp) (.int .i64 c1)).set (j:=2) (by simp) (.int .i64 c2)).set (j:=3) (by simp) (.int .i64 c3)).set (j:=4) (by simp) (.slice b1 n1 b3)).set (j:=5) (by simp) (.slice b2 n2 b4))
 have HW : Hid (Below w.heap.size w Y):=qH (by rw [hY];exact (((((((hb1.setCell (p:=⟨w.heap.size + 1 + 1,5,none⟩) (by dsimp only;omega) (.slice b2 n2 b4)).setCell (p:=⟨w.heap.size + 1,0,none⟩) (by dsimp only;omega) (.int .i64 c0)).setCell (p:=⟨w.heap.size + 1,1,none⟩) (by dsimp only;omega) (.int .i64 c1)).setCell (p:=⟨w.heap.size + 1,2,none⟩) (by dsimp only;omega) (.int .i64 c2)).setCell (p:=⟨w.heap.size + 1,3,none⟩) (by dsimp only;omega) (.int .i64 c3)).setCell (p:=⟨w.heap.size + 1,4,none⟩) (by dsimp only;omega) (.slice b1 n1 b3)).setCell (p:=⟨w.heap.size + 1,5,none⟩) (by dsimp only;omega) (.slice b2 n2 b4)))
 have HT : Hid (Y.ownsRow w.heap.size 97 tmE.k (.slice b1 n1 b3) n1 (tmE.flat ts)):=qH (by rw [hY];exact (own_other (own_other (own_other (own_other (own_other (own_other (own_other hT1 (b:=w.heap.size + 1 + 1) (fun q hq => by have:=HN.out q hq;omega) ⟨w.heap.size + 1 + 1,5,none⟩ (.slice b2 n2 b4) rfl) (b:=w.heap.size + 1) (fun q hq => by have:=HN.out q hq;omega) ⟨w.heap.size + 1,0,none⟩ (.int .i64 c0) rfl) (b:=w.heap.size + 1) (fun q hq => by have:=HN.out q hq;omega) ⟨w.heap.size + 1,1,none⟩ (.int .i64 c1) rfl) (b:=w.heap.size + 1) (fun q hq => by have:=HN.out q hq;omega) ⟨w.heap.size + 1,2,none⟩ (.int .i64 c2) rfl) (b:=w.heap.size + 1) (fun q hq => by have:=HN.out q hq;omega) ⟨w.heap.size + 1,3,none⟩ (.int .i64 c3) rfl) (b:=w.heap.size + 1) (fun q hq => by have:=HN.out q hq;omega) ⟨w.heap.size + 1,4,none⟩ (.slice b1 n1 b3) rfl) (b:=w.heap.size + 1) (fun q hq => by have:=HN.out q hq;omega) ⟨w.heap.size + 1,5,none⟩ (.slice b2 n2 b4) rfl))
 have HI : Hid (Y.ownsRow w.heap.size 62 imE.k (.slice b2 n2 b4) n2 (imE.flat is)):=qH (by rw [hY];exact (own_other (own_other (own_other (own_other (own_other (own_other (own_other (own_mono ho (by omega)) (b:=w.heap.size + 1 + 1) (fun q hq => by have:=HN2.out q hq;omega) ⟨w.heap.size + 1 + 1,5,none⟩ (.slice b2 n2 b4) rfl) (b:=w.heap.size + 1) (fun q hq => by have:=HN2.out q hq;omega) ⟨w.heap.size + 1,0,none⟩ (.int .i64 c0) rfl) (b:=w.heap.size + 1) (fun q hq => by have:=HN2.out q hq;omega) ⟨w.heap.size + 1,1,none⟩ (.int .i64 c1) rfl) (b:=w.heap.size + 1) (fun q hq => by have:=HN2.out q hq;omega) ⟨w.heap.size + 1,2,none⟩ (.int .i64 c2) rfl) (b:=w.heap.size + 1) (fun q hq => by have:=HN2.out q hq;omega) ⟨w.heap.size + 1,3,none⟩ (.int .i64 c3) rfl) (b:=w.heap.size + 1) (fun q hq => by have:=HN2.out q hq;omega) ⟨w.heap.size + 1,4,none⟩ (.slice b1 n1 b3) rfl) (b:=w.heap.size + 1) (fun q hq => by have:=HN2.out q hq;omega) ⟨w.heap.size + 1,5,none⟩ (.slice b2 n2 b4) rfl))
 have g0:=hC5.cell 0 _ rfl
 have g1:=hC5.cell 1 _ rfl
 have g2:=hC5.cell 2 _ rfl
 have g3:=hC5.cell 3 _ rfl
 have g4:=hC5.cell 4 _ rfl
 have g5:=hC5.cell 5 _ rfl
 have HG:=qH (And.intro g0 (And.intro g1 (And.intro g2 (And.intro g3 (And.intro g4 g5)))))
 clear hB1 hC1 hb1 hT1 ho hC5 g0 g1 g2 g3 g4 g5
 go_wp2_with fail
 rw [<- hY]
 obtain ⟨g0,g1,g2,g3,g4,g5⟩:=HG.out
 clear hY b0x d0x e0x b1x d1x e1x b2x d2x e2x b3x d3x e3x b4x d4x e4x b5x d5x e5x f5x
 exact bodyPost_ret (v:=.agg #[.int .i64 c0,.int .i64 c1,.int .i64 c2,.int .i64 c3,.slice b1 n1 b3,.slice b2 n2 b4]) (by simp [results,Tryz.results22,go_sem,g0,g1,g2,g3,g4,g5]) rfl ⟨b1,b3,b2,b4,rfl,⟨HT.out,HI.out⟩,HW.out⟩
theorem BkO.len {w : World} {base : Nat} {a1 a2 : Option Addr} {n1 a3 n2 a4 : Nat} {ts : List Tm} {is : List Im} (h : BkO w base a1 n1 a3 a2 n2 a4 ts is) : ts.length = n1 /\ is.length = n2:=⟨TmR.olen h.t,ImR.olen h.i⟩
theorem markBook_any (c0 c1 c2 c3 : Int) (a1 a2 : Option Addr) (base n1 n2 a3 a4 : Nat) (ts : List Tm) (is : List Im) (k0 : Nat) (w : World) (h : BkO w base a1 n1 a3 a2 n2 a4 ts is) (hn1 : n1 <= 1048576) (hn2 : n2 <= 1048576) (hk0 : 0 < k0) (hk1 : k0 <= 549755813888) :
 Calls Tryz.prog 34 #[.agg #[.int .i64 c0,.int .i64 c1,.int .i64 c2,.int .i64 c3,.slice a1 n1 a3,.slice a2 n2 a4],.int .i64 (k0 : Int)] w fun e w' => e = .returned (.int .i64 ((k0 : Int) + 2 * (n1 : Int) + 3 * (n2 : Int))) /\ BkO w' base a1 n1 a3 a2 n2 a4 (marksTm k0 n1) (marksIm (k0 + 2 * n1) n2) /\ ∃ w1,w.grownBy w1 (Value.slice a1 n1 a3).ownBlock /\ w1.grownBy w' (Value.slice a2 n2 a4).ownBlock:=by
 obtain ⟨W,hW⟩ : ∃ W,W = w.alloc (.cells #[.int .i64 c0,.int .i64 c1,.int .i64 c2,.int .i64 c3,.slice a1 n1 a3,.slice a2 n2 a4] 43):=⟨_,rfl⟩
 have hb0 : Below w.heap.size w W:=by rw [hW];repeat' (first | exact Below.refl _ _ | refine Below.alloc ?_ (by first | exact Nat.le_refl _ | (simp;done) | (simp;omega)) _)
 have hA : BoxC W (w.heap.size) [.int .i64 c0,.int .i64 c1,.int .i64 c2,.int .i64 c3,.slice a1 n1 a3,.slice a2 n2 a4]:=by rw [hW];exact (BoxC.made w #[.int .i64 c0,.int .i64 c1,.int .i64 c2,.int .i64 c3,.slice a1 n1 a3,.slice a2 n2 a4] 43)
 have hT:=own_below h.t (show Below w.heap.size w W from hb0)
 have hI:=own_below h.i (show Below w.heap.size w W from hb0)
 have hd:=own_types hT hI (by decide)
 have hgW : w.grownBy W (Value.slice a1 n1 a3).ownBlock:=⟨hb0.os,hb0.tape,hb0.output,hb0.size,fun k hk _ => hb0.block k hk⟩
 have hAn : ∀ q,(Value.slice a1 n1 a3).ownBlock = some q -> q < w.heap.size:=fun q hq => (h.t.lt q hq).2
 clear h
 go_enter Tryz.func34,Tryz.ntmps34
 go_wp2_with fail
 rw [<- hW]
 clear hW
 refine (markTermS_any a1 base n1 a3 ts k0 _ hT hn1 hk0 (by omega)).mono ?_
 rintro e w1 ⟨rfl,ho,hg⟩
 have a5x:=(hA.grown hg (fun e => by have:=hAn _ e.symm;omega)).cell 5 _ rfl
 have hI1:=own_grown hI hg hd.symm
 have HO:=qH ho
 have HG:=qH (grown_trans hgW hg)
 have HD:=qH hd
 clear hT hI hd hgW hA hb0 ho hg
 go_wp2_with fail
 have hmk:=markItemS_any a2 base n2 a4 is (k0 + 2 * n1) w1 hI1 hn2 (by omega) (by omega)
 rw [show ((k0 + 2 * n1 : Nat) : Int) = (k0 : Int) + 2 * (n1 : Int) by omega] at hmk
 refine hmk.mono ?_
 rintro e w2 ⟨rfl,ho2,hg2⟩
 have HO2:=qH ho2
 have HT2:=qH (own_grown HO.out hg2 HD.out)
 have HG2:=qH hg2
 clear hI1 hmk ho2 hg2 a5x
 go_wp2_with fail
 go_ret
 exact ⟨rfl,⟨HT2.out,HO2.out⟩,w1,HG.out,HG2.out⟩
end Go.Proofs.YthkbcjnbmciolaaGreatDoor
