/- Used by the law. -/
import Derived.Test.YtgafndgnmadcfaaGreatDoorQU14
set_option maxRecDepth 100000
set_option maxHeartbeats 16000000
namespace Go.Proofs.YtgafndgnmadcfaaGreatDoor
open Go.RowKit Go.PlainAid G MGF IRow
set_option linter.unusedVariables false
structure Pw where
 nm : ByteArray
 tx : ByteArray
def pwD : Pw:=⟨ByteArray.empty,ByteArray.empty⟩
def pwE : Enc Pw:=⟨2,fun e => [.string e.nm,.string e.tx],fun _ => rfl,by intro x v hv;simp at hv;rcases hv with rfl | rfl <;> rfl⟩
theorem eqPair_same (q0 : ByteArray) (q1 : ByteArray) (w : World) :
 Calls Tryz.prog 58 #[.agg #[.string q0,.string q1],.agg #[.string q0,.string q1]] w fun e w' => e = .returned (.bool true) /\ Below w.heap.size w w':=by
 go_enter Tryz.func58,Tryz.ntmps58
 go_wp2_with fail
 go_ret
 exact ⟨rfl,((Below.refl _ _).alloc (Nat.le_refl _) _).alloc (by simp) _⟩
abbrev PwR (w : World) (a : Option Addr) (n cap : Nat) (l : List Pw) : Prop:=SR pwE pwD w a n cap l
theorem PwR.at {w : World} {a : Option Addr} {n cap : Nat} {l : List Pw} (h : PwR w a n cap l) {i : Nat} (hi : i < n) : ∃ g o,a = some ⟨g,o,none⟩ /\ g < w.heap.size /\ w.cell? ⟨g,o + i * 2,none⟩ = some (.string (l.getD i pwD).nm) /\ w.cell? ⟨g,o + i * 2 + 1,none⟩ = some (.string (l.getD i pwD).tx):=by
 obtain ⟨g,o,ha,hg,hc⟩:=h.cells (by omega)
 exact ⟨g,o,ha,hg,hc i hi 0 _ rfl,hc i hi 1 _ rfl⟩
theorem PwR.own {w : World} {base n cap : Nat} {a : Option Addr} {e : TypeId} {l : List Pw} (h : w.ownsRow base e pwE.k (.slice a n cap) n (pwE.flat l)) : PwR w a n cap l:=SR.own (by decide) h
theorem PwR.olen {w : World} {base n cap : Nat} {a : Option Addr} {e : TypeId} {l : List Pw} (h : w.ownsRow base e pwE.k (.slice a n cap) n (pwE.flat l)) : l.length = n:=by
 have:=h.1;rw [pwE.flat_length] at this;exact Nat.eq_of_mul_eq_mul_right (show 0 < pwE.k by decide) this
theorem infoPair : (Tryz.prog.info? 97).map (fun i => (i.zero,i.size,i.bytes)) = some (some (.agg #[.string ByteArray.empty,.string ByteArray.empty]),2,32):=by kernel_rfl
theorem PwR.set0 {w : World} {base g n cap : Nat} {e : TypeId} {ps : List Pw} (h : w.ownsRow base e pwE.k (.slice (some ⟨g,0,none⟩) n cap) n (pwE.flat ps)) {i : Nat} (hi : i < n) (v : ByteArray) :
 (w.setCell ⟨g,i * 2,none⟩ (.string v)).ownsRow base e pwE.k (.slice (some ⟨g,0,none⟩) n cap) n (pwE.flat (ps.set i ⟨v,(ps.getD i pwD).tx⟩)) /\ w.grownBy (w.setCell ⟨g,i * 2,none⟩ (.string v)) (some g):=by
 have hl:=PwR.olen h
 obtain ⟨h1,g1⟩:=h.stored (i * 2) (.string v)
 have e1 : (pwE.flat ps).set (i * 2) (.string v) = pwE.flat (ps.set i ⟨v,(ps.getD i pwD).tx⟩):=flat_setX pwE pwD ps i 0 _ _ (by omega) (by decide) rfl
 rw [e1] at h1
 exact ⟨h1,g1⟩
theorem PwR.set1 {w : World} {base g n cap : Nat} {e : TypeId} {ps : List Pw} (h : w.ownsRow base e pwE.k (.slice (some ⟨g,0,none⟩) n cap) n (pwE.flat ps)) {i : Nat} (hi : i < n) (v : ByteArray) :
 (w.setCell ⟨g,i * 2 + 1,none⟩ (.string v)).ownsRow base e pwE.k (.slice (some ⟨g,0,none⟩) n cap) n (pwE.flat (ps.set i ⟨(ps.getD i pwD).nm,v⟩)) /\ w.grownBy (w.setCell ⟨g,i * 2 + 1,none⟩ (.string v)) (some g):=by
 have hl:=PwR.olen h
 obtain ⟨h1,g1⟩:=h.stored (i * 2 + 1) (.string v)
 have e1 : (pwE.flat ps).set (i * 2 + 1) (.string v) = pwE.flat (ps.set i ⟨(ps.getD i pwD).nm,v⟩):=flat_setX pwE pwD ps i 1 _ _ (by omega) (by decide) rfl
 rw [e1] at h1
 exact ⟨h1,g1⟩
theorem eqPairS_same (a b : Option Addr) (n cap cbp : Nat) (l : List Pw) (w : World) (h : PwR w a n cap l) (k : PwR w b n cbp l) (hn : n <= 1048576) :
 Calls Tryz.prog 14 #[.slice a n cap,.slice b n cbp] w fun e w' => e = .returned (.bool true) /\ Below w.heap.size w w':=by
 go_enter Tryz.func14,Tryz.ntmps14
 go_wp2_with fail
 go_loopw [5] (fun i wr => ∃ j : Nat,j <= n /\ i = .int .i64 j /\ Below w.heap.size w wr) (fun i _ => n - (intOf i).toNat)
 case atStart => exact ⟨0,Nat.zero_le _,rfl,Below.refl _ _⟩
 case round =>
  obtain ⟨j,hj,rfl,hB⟩:=hrel
  have HB:=qH hB.drew
  by_cases hlt : j < n
  · obtain ⟨g,o,rfl,hg,hc0,hc1⟩:=h.at hlt
    obtain ⟨g',o',rfl,hg',hd0,hd1⟩:=k.at hlt
    have a0:=(hB.cell (p:=⟨g,o + j * 2,none⟩) hg).trans hc0
    have a1:=(hB.cell (p:=⟨g,o + j * 2 + 1,none⟩) hg).trans hc1
    have b0:=(hB.cell (p:=⟨g',o' + j * 2,none⟩) hg').trans hd0
    have b1:=(hB.cell (p:=⟨g',o' + j * 2 + 1,none⟩) hg').trans hd1
    generalize (l.getD j pwD).nm = q0 at *
    generalize (l.getD j pwD).tx = q1 at *
    clear hc0 hc1 hd0 hd1 h k hB
    go_wp2_with fail
    go_still_tail 8,(by kernel_rfl)
    change wpList _ _ _ _ _ wr.drew
    clear a0 a1 b0 b1
    generalize wr.drew = we at *
    go_wp2_with fail
    refine (eqPair_same q0 q1 _).mono ?_
    rintro e w5 ⟨rfl,hb⟩
    have HB5:=qH (HB.out.trans (hb.mono HB.out.size))
    clear hb
    go_wp2_with fail
    go_roundw
    case rel => exact ⟨j + 1,by omega,by go_num,HB5.out⟩
    case measure => simp [intOf] <;> omega
  · obtain rfl : j = n:=by omega
    have HB2:=qH hB
    clear h k hB
    go_wp2_with fail
    go_ret
    exact ⟨rfl,HB2.out⟩
def mkPw (k j : Nat) : Pw:=⟨mkt (k + 2 * j),mkt (k + 2 * j + 1)⟩
def marksPw (k n : Nat) : List Pw:=(List.range n).map (mkPw k)
theorem marksPw_length (k n : Nat) : (marksPw k n).length = n:=by simp [marksPw]
theorem marksPw_getD {k n j : Nat} (h : j < n) : (marksPw k n).getD j pwD = mkPw k j:=by simp [marksPw,List.getD,h]
theorem markPairS_any (a : Option Addr) (base n cap : Nat) (zs : List Pw) (k0 : Nat) (w : World) (h : w.ownsRow base 97 pwE.k (.slice a n cap) n (pwE.flat zs)) (hn : n <= 1048576) (hk0 : 0 < k0) (hk1 : k0 <= 1099511627776) :
 Calls Tryz.prog 16 #[.slice a n cap,.int .i64 (k0 : Int)] w fun e w' => e = .returned (.int .i64 ((k0 : Int) + 2 * (n : Int))) /\ w'.ownsRow base 97 pwE.k (.slice a n cap) n (pwE.flat (marksPw k0 n)) /\ w.grownBy w' (Value.slice a n cap).ownBlock:=by
 have hl:=PwR.olen h
 have HML:=qH (marksPw_length k0 n)
 have HZL:=qH hl
 clear hl
 go_enter Tryz.func16,Tryz.ntmps16
 go_wp2_with fail
 go_loopw [1,5] (fun k i wr => ∃ j : Nat,j <= n /\ i = .int .i64 j /\ k = .int .i64 ((k0 : Int) + 2 * (j : Int)) /\ wr.ownsRow base 97 pwE.k (.slice a n cap) n (pwE.flat (mixX (marksPw k0 n) zs j)) /\ w.grownBy wr (Value.slice a n cap).ownBlock) (fun _ i _ => n - (intOf i).toNat)
 case atStart => exact ⟨0,Nat.zero_le _,rfl,by simp,by rw [mixX_zero];exact h,⟨rfl,rfl,rfl,Nat.le_refl _,fun _ _ _ => rfl⟩⟩
 case round =>
  obtain ⟨j,hj,rfl,rfl,hown,hg⟩:=hrel
  by_cases hlt : j < n
  · obtain ⟨g,c,hv,_,hgl⟩:=hown.form (by omega)
    simp only [Value.slice.injEq] at hv
    obtain ⟨rfl,_,rfl⟩:=hv
    have HMT0 : Hid (∀ (r : Int) (u : World),r = (k0 : Int) + 2 * (j : Int) -> Calls Tryz.prog 61 #[.int .i64 r] u fun e w' => e = .returned (.string (mkt (k0 + 2 * j))) /\ Below u.heap.size u w'):=qH (fun r u hr => by
     have hm:=markText_any (k0 + 2 * j) (w:=u) (by omega) (by omega)
     rwa [show ((k0 + 2 * j : Nat) : Int) = r by omega] at hm)
    have HMT1 : Hid (∀ (r : Int) (u : World),r = (k0 : Int) + 2 * (j : Int) + 1 -> Calls Tryz.prog 61 #[.int .i64 r] u fun e w' => e = .returned (.string (mkt (k0 + 2 * j + 1))) /\ Below u.heap.size u w'):=qH (fun r u hr => by
     have hm:=markText_any (k0 + 2 * j + 1) (w:=u) (by omega) (by omega)
     rwa [show ((k0 + 2 * j + 1 : Nat) : Int) = r by omega] at hm)
    have HST:=qH (mixX_set pwD (zs:=marksPw k0 n) (ys:=zs) (k:=j) (by rw [HML.out,HZL.out]) (by rw [HML.out];exact hlt))
    rw [marksPw_getD hlt] at HST
    have HMJ : Hid (j < (mixX (marksPw k0 n) zs j).length):=qH (by rw [mixX_length (by rw [HML.out,HZL.out]),HML.out];exact hlt)
    have gd : ∀ (ps : List Pw) (p q : Pw),((ps.set j p).set j q) = ps.set j q:=fun ps p q => by rw [List.set_set]
    have ge : ∀ p : Pw,((mixX (marksPw k0 n) zs j).set j p).getD j pwD = p:=fun p => by simp [List.getD,HMJ.out]
    have GD:=qH gd
    have GE:=qH ge
    clear gd ge h
    have HO0:=qH hown
    have HG0:=qH hg
    clear hown hg
    go_wp2_with fail
    refine (HMT0.out _ _ (by omega)).mono ?_
    rintro e w5 ⟨rfl,hb⟩
    have hown5:=own_below HO0.out hb
    have hg5:=grown_trans HG0.out (fg_below hb)
    clear hb HO0 HG0
    obtain ⟨g',o',hge,_,x0,x1⟩:=(PwR.own hown5).at hlt
    simp only [Option.some.injEq,Addr.mk.injEq,and_true] at hge
    obtain ⟨rfl,rfl⟩:=hge
    rw [Nat.zero_add] at x0 x1
    have y0:=hown5.frozenAt (j * 2)
    clear x1
    have s0:=PwR.set0 hown5 hlt (mkt (k0 + 2 * j))
    have HO1:=qH s0.1
    have HG1:=qH (grown_trans hg5 s0.2)
    clear s0
    clear hown5 hg5
    go_wp2_with fail
    clear x0 y0
    refine (HMT1.out _ _ (by omega)).mono ?_
    rintro e w5 ⟨rfl,hb⟩
    have hown5:=own_below HO1.out hb
    have hg5:=grown_trans HG1.out (fg_below hb)
    clear hb HO1 HG1
    obtain ⟨g',o',hge,_,x0,x1⟩:=(PwR.own hown5).at hlt
    simp only [Option.some.injEq,Addr.mk.injEq,and_true] at hge
    obtain ⟨rfl,rfl⟩:=hge
    rw [Nat.zero_add] at x0 x1
    have y1:=hown5.frozenAt (j * 2 + 1)
    clear x0
    have s1:=PwR.set1 hown5 hlt (mkt (k0 + 2 * j + 1))
    rw [GD.out,GE.out] at s1
    have HO2:=qH s1.1
    have HG2:=qH (grown_trans hg5 s1.2)
    clear s1
    clear hown5 hg5
    go_wp2_with fail
    go_roundw
    case rel => exact ⟨j + 1,by omega,by go_num,by go_num,by rw [<- HST.out];exact HO2.out,HG2.out⟩
    case measure => simp [intOf] <;> omega
  · obtain rfl : j = n:=by omega
    have hm : mixX (marksPw k0 j) zs j = marksPw k0 j:=by
     have:=mixX_all (zs:=marksPw k0 j) (ys:=zs) (by rw [HML.out,HZL.out])
     rwa [HML.out] at this
    rw [hm] at hown
    have HO:=qH hown
    have HG:=qH hg
    clear hown hg hm h
    go_wp2_with fail
    go_ret
    exact ⟨rfl,HO.out,HG.out⟩
theorem heldPairS_any (a : Option Addr) (n cap k0 : Nat) (w : World) (h : PwR w a n cap (marksPw k0 n)) (hn : n <= 1048576) (hk0 : 0 < k0) (hk1 : k0 <= 1099511627776) :
 Calls Tryz.prog 17 #[.slice a n cap,.int .i64 (k0 : Int)] w fun e w' => e = .returned (.int .i64 ((k0 : Int) + 2 * (n : Int))) /\ Below w.heap.size w w':=by
 go_enter Tryz.func17,Tryz.ntmps17
 go_wp2_with fail
 go_loopw [1,5] (fun k i wr => ∃ j : Nat,j <= n /\ i = .int .i64 j /\ k = .int .i64 ((k0 : Int) + 2 * (j : Int)) /\ Below w.heap.size w wr) (fun _ i _ => n - (intOf i).toNat)
 case atStart => exact ⟨0,Nat.zero_le _,rfl,by simp,Below.refl _ _⟩
 case round =>
  obtain ⟨j,hj,rfl,rfl,hB⟩:=hrel
  by_cases hlt : j < n
  · obtain ⟨g,o,rfl,hg,hc0,hc1⟩:=h.at hlt
    rw [marksPw_getD hlt] at hc0 hc1
    unfold mkPw at hc0 hc1
    dsimp only at hc0 hc1
    have HC : Hid (∀ u,Below w.heap.size w u -> u.cell? ⟨g,o + j * 2,none⟩ = some (.string (mkt (k0 + 2 * j))) /\ u.cell? ⟨g,o + j * 2 + 1,none⟩ = some (.string (mkt (k0 + 2 * j + 1)))):=qH (fun u hb => ⟨(hb.cell (p:=⟨g,o + j * 2,none⟩) hg).trans hc0,(hb.cell (p:=⟨g,o + j * 2 + 1,none⟩) hg).trans hc1⟩)
    have HMT0 : Hid (∀ (r : Int) (u : World),r = (k0 : Int) + 2 * (j : Int) -> Calls Tryz.prog 61 #[.int .i64 r] u fun e w' => e = .returned (.string (mkt (k0 + 2 * j))) /\ Below u.heap.size u w'):=qH (fun r u hr => by
     have hm:=markText_any (k0 + 2 * j) (w:=u) (by omega) (by omega)
     rwa [show ((k0 + 2 * j : Nat) : Int) = r by omega] at hm)
    have HMT1 : Hid (∀ (r : Int) (u : World),r = (k0 : Int) + 2 * (j : Int) + 1 -> Calls Tryz.prog 61 #[.int .i64 r] u fun e w' => e = .returned (.string (mkt (k0 + 2 * j + 1))) /\ Below u.heap.size u w'):=qH (fun r u hr => by
     have hm:=markText_any (k0 + 2 * j + 1) (w:=u) (by omega) (by omega)
     rwa [show ((k0 + 2 * j + 1 : Nat) : Int) = r by omega] at hm)
    generalize mkt (k0 + 2 * j) = t0 at *
    generalize mkt (k0 + 2 * j + 1) = t1 at *
    clear hc0 hc1 h
    have hFn:=hB
    go_wp2_with fail
    replace hFn:=hFn.drew
    go_region_held3 (fun u => u.cell? ⟨g,o + j * 2,none⟩ = some (.string t0)) (exact (HC.out _ hFn).1)
     (first | (go_at_call 61;refine Calls.mono (HMT0.out _ _ rfl) ?_;rintro e w1 ⟨rfl,hb⟩;have hFn:=hFn.trans (hb.mono hFn.size)))
    all_goals
     go_wp2_with fail
     replace hFn:=hFn.drew
     go_region_held3 (fun u => u.cell? ⟨g,o + j * 2 + 1,none⟩ = some (.string t1)) (exact (HC.out _ hFn).2)
      (first | (go_at_call 61;refine Calls.mono (HMT1.out _ _ rfl) ?_;rintro e w1 ⟨rfl,hb⟩;have hFn:=hFn.trans (hb.mono hFn.size)))
     all_goals
      go_wp2_with fail
      go_roundw
      case rel => exact ⟨j + 1,by omega,by go_num,by go_num,hFn⟩
      case measure => simp [intOf] <;> omega
  · obtain rfl : j = n:=by omega
    have HB:=qH hB
    clear hB h
    go_wp2_with fail
    go_ret
    exact ⟨rfl,HB.out⟩
end Go.Proofs.YtgafndgnmadcfaaGreatDoor
namespace Go.Proofs.YtgafndgnmadcfaaGreatDoor
open Go.RowKit Go.PlainAid G
set_option linter.unusedVariables false
theorem bt_at (s : ByteArray) (k : Nat) (h : k < s.size) : ((s[k]'h).toNat : Int) = bt s k:=by unfold bt;rw [dif_pos h]
theorem lk_loop {w : World} {g : Nat} {key t : ByteArray} {n k : Nat} {old : Nat -> Int} (h : LkAt w g t.size (lkM key n t old k)) : LkAt (w.setCell ⟨g,k,none⟩ (.int .u8 (lkB key n t k))) g t.size (lkM key n t old (k + 1)) :=
 (h.set (lkB key n t k)).congr (fun i _ => lkM_step key n t old k i)
theorem lk_made {w w1 : World} {e : TypeId} {key t : ByteArray} {n : Nat} (h : w1.ownsRow w.heap.size e 1 (.slice (some ⟨w.heap.size,0,none⟩) t.size t.size) t.size (madeCells (Value.int .u8 0).cells (t.size * 1)).toList) :
 LkAt w1 w.heap.size t.size (lkM key n t (fun _ => 0) 0):=by
 refine ⟨fun i hi => ?_,fun i _ => h.frozenAt i⟩
 rw [h.cellAt i (by omega)]
 unfold lkM
 rw [if_neg (by omega)]
 simp [madeCells,Value.cells,Nat.mod_one,hi]
theorem l06Lock_any (key : ByteArray) (n : Nat) (t : ByteArray) (w : World) (hk1 : 1 <= key.size) (hk2 : key.size <= 16) (hn : n <= 1000000) (ht : t.size <= 1048576) :
 Calls Tryz.prog 53 #[.string key,.int .i64 n,.string t] w fun e w' => e = .returned (.string (lkS key n t)) /\ Below w.heap.size w w':=by
 have hcv : ∀ u : World,(convert 9 120 (.string t)).run Tryz.prog u = .ok (.slice (some ⟨u.heap.size,0,none⟩) t.size (grownCap u t.size 0 5)) (Lib.bytesWorld u 5 t):=fun u => Lib.run_convert_string_bytes u _ _ _ t Tryz.underlying9 Tryz.underlying120 Tryz.underlying5
 have hlk:=lk_bytes w 5 t
 have hbl:=below_lk w 5 t
 have hsz:=Lib.bytesWorld_size w 5 t
 have HLK : Hid (LkAt (Lib.bytesWorld w 5 t) w.heap.size t.size (lkM key n t (bt t) 0)):=qH (hlk.congr (fun i _ => by unfold lkM;rw [if_neg (by omega)]))
 have HBL:=qH hbl
 have HSZ : Hid (w.heap.size < (Lib.bytesWorld w 5 t).heap.size):=qH (by omega)
 clear hlk hbl hsz
 go_enter Tryz.func53,Tryz.ntmps53
 go_wp2_with fail
 clear hcv
 generalize Lib.bytesWorld w 5 t = wb at *
 generalize grownCap w t.size 0 5 = cap
 go_loopw [8] (fun i wr => ∃ k : Nat,k <= t.size /\ i = .int .i64 k /\ LkAt wr w.heap.size t.size (lkM key n t (bt t) k) /\ Below w.heap.size w wr /\ w.heap.size < wr.heap.size) (fun i _ => t.size - (intOf i).toNat)
 case atStart => exact ⟨0,Nat.zero_le _,rfl,HLK.out,HBL.out,HSZ.out⟩
 case round =>
  obtain ⟨k,hk,rfl,hL,hB,hg⟩:=hrel
  clear HLK HBL HSZ
  by_cases hlt : k < t.size
  · have hck:=hL.cell k hlt
    have hfk:=hL.free k hlt
    have hold : lkM key n t (bt t) k k = bt t k:=by unfold lkM;rw [if_neg (by omega)]
    rw [hold] at hck
    have hS:=lk_loop hL
    have HS:=qH hS
    have HL:=qH hL
    have HB:=qH hB
    obtain ⟨m,hm⟩ : ∃ m : Nat,k + n = m:=⟨_,rfl⟩
    have hml : m % key.size < key.size:=Nat.mod_lt _ (by omega)
    have hx:=bt_at key (m % key.size) hml
    have HX : Hid (bits .xor .u8 (bt t k) ((key[m % key.size]'hml).toNat : Int) = lkB key n t k):=qH (by rw [hx];unfold lkB;rw [hm])
    obtain ⟨r,hr⟩ : ∃ r : Nat,m % key.size = r:=⟨_,rfl⟩
    have hw1 : IntKind.i64.wrap ((k : Int) + (n : Int)) = (m : Int):=by rw [IntWalk.i64_in _ (by omega)];omega
    have hw2 : Int.tmod (m : Int) (key.size : Int) = (r : Int):=by rw [<- hr];rfl
    have hw3 : IntKind.i64.wrap (r : Int) = (r : Int):=IntWalk.i64_in _ (by omega)
    have hnz : ¬ (key.size : Int) = 0:=by omega
    have hne : ¬ key = ByteArray.empty:=fun h => by subst h;exact absurd hk1 (by decide)
    have hrl : r < key.size:=by omega
    have HX2 : Hid (bits .xor .u8 (bt t k) ((key[r]'hrl).toNat : Int) = lkB key n t k):=qH (by subst hr;exact HX.out)
    have hr2 : (0 : Int) <= (r : Int) /\ (r : Int) < (key.size : Int):=by omega
    clear hS hL hB hold hx hr hml HX
    have hm2 : 0 <= (m : Int):=by omega
    clear hm
    generalize bt t k = x at *
    go_wp2_with fail
    go_still_tail 15,(by kernel_rfl)
    change wpList _ _ _ _ _ wr.drew
    have hfk' : wr.drew.frozen? ⟨w.heap.size,k,none⟩ = false:=hfk
    have hck' : wr.drew.cell? ⟨w.heap.size,k,none⟩ = some (.int .u8 x):=hck
    have HSd:=qH (lk_loop HL.out.drew)
    have HBd : Hid (Below w.heap.size w (wr.drew.setCell ⟨w.heap.size,k,none⟩ (.int .u8 (lkB key n t k)))):=qH (HB.out.drew.setCell (Nat.le_refl _) _)
    have hgd : w.heap.size < (wr.drew.setCell ⟨w.heap.size,k,none⟩ (.int .u8 (lkB key n t k))).heap.size:=by simpa using hg
    clear hck hfk HS HL HB hg
    rw [HX2.out]
    generalize wr.drew = we at *
    generalize lkB key n t k = y at *
    go_wp2_with fail
    go_roundw
    case rel => exact ⟨k + 1,by omega,by go_num,HSd.out,HBd.out,hgd⟩
    case measure => simp [intOf];omega
  · have hcv:=conv_lk 120 9 5 Tryz.underlying120 Tryz.underlying5 Tryz.underlying9 (cap:=cap) hL (by omega)
    have HB:=qH hB
    clear hL hB
    go_wp2_with fail
    go_ret
    exact ⟨rfl,HB.out⟩
theorem turn_any (key : ByteArray) (p : Nat) (b : Int) (w : World) (hk1 : 1 <= key.size) (hk2 : key.size <= 16) (hp : p <= 100000000) :
 Calls Tryz.prog 210 #[.string key,.int .u64 p,.int .u8 b] w fun e w' => e = .returned (.int .u8 (bits .xor .u8 b (bt key (p % key.size)))) /\ w = w':=by
 have hin : 0 <= (p : Int) % (key.size : Int) /\ (p : Int) % (key.size : Int) < (key.size : Int):=⟨Int.emod_nonneg _ (by omega),Int.emod_lt_of_pos _ (by omega)⟩
 have HF:=qH (bt_at key (p % key.size) (Nat.mod_lt _ (by omega)))
 go_enter Tryz.func210,Tryz.ntmps210
 go_wp2_with fail
 go_ret
 exact ⟨ret_int (by rw [<- HF.out]),rfl⟩
theorem turned_any (key : ByteArray) (n : Nat) (t : ByteArray) (w : World) (hk1 : 1 <= key.size) (hk2 : key.size <= 16) (hn : n <= 1000000) (ht : t.size <= 1048576) :
 Calls Tryz.prog 209 #[.func (.func 210) #[.string key] #[],.int .u64 n,.string t] w fun e w' => e = .returned (.string (lkS key n t)) /\ Below w.heap.size w w':=by
 obtain ⟨i0,hi,hz0,hz1,hz2⟩:=info_parts infoU8
 go_enter Tryz.func209,Tryz.ntmps209
 go_wp2_with (at_make;refine wpList_make_full _ rfl (.tmp 10) (.tmp 10) 120 rfl w.heap.size 5 i0 (.int .u8 0) 1 Tryz.underlying120 hi hz0 hz1 .i64 .i64 _ _ t.size rfl rfl rfl rfl (by rw [hz2];omega) (by unfold maxLen;omega) (Nat.le_refl _) ?_;intro w1 hown1 hgrow1)
 have hb1 : Below w.heap.size w w1:=(Below.refl _ _).grown hgrow1 (Nat.le_refl _) (fun k hk => by cases hk)
 have hL1 : LkAt w1 w.heap.size t.size (lkM key n t (fun _ => 0) 0):=lk_made hown1
 have hg1 : w.heap.size < w1.heap.size:=(hown1.lt _ rfl).2
 clear hown1 hgrow1
 go_loopw [14] (fun i wr => ∃ k : Nat,k <= t.size /\ i = .int .i64 k /\ LkAt wr w.heap.size t.size (lkM key n t (fun _ => 0) k) /\ Below w.heap.size w wr /\ w.heap.size < wr.heap.size) (fun i _ => t.size - (intOf i).toNat)
 case atStart => exact ⟨0,Nat.zero_le _,rfl,hL1,hb1,hg1⟩
 case round =>
  obtain ⟨k,hk,rfl,hL,hB,hg⟩:=hrel
  clear hL1 hb1 hg1
  by_cases hlt : k < t.size
  · have hck:=hL.cell k hlt
    have hfk:=hL.free k hlt
    have hS:=lk_loop hL
    have HS:=qH hS
    have HL:=qH hL
    have HB:=qH hB
    have hsum : IntKind.u64.wrap ((n : Int) + (k : Int)) = ((n + k : Nat) : Int):=by rw [IntKind.wrap_u64];omega
    have hin : (k : Int) < (t.size : Int):=by omega
    have hx:=bt_at t k hlt
    have HX : Hid (bits .xor .u8 (((t[k]'hlt).toNat : Nat) : Int) (bt key ((n + k) % key.size)) = lkB key n t k):=qH (by rw [hx,Nat.add_comm];rfl)
    have hcall:=turn_any key (n + k) (((t[k]'hlt).toNat : Nat) : Int) wr hk1 hk2 (by omega)
    rw [HX.out,Int.natCast_add] at hcall
    have HCALL:=qH hcall
    clear hS hL hB hx hcall
    go_wp2_with fail
    refine HCALL.out.mono ?_
    rintro e w2 ⟨rfl,rfl⟩
    have HB2 : Hid (Below w.heap.size w (wr.setCell ⟨w.heap.size,k,none⟩ (.int .u8 (lkB key n t k)))):=qH (HB.out.setCell (Nat.le_refl _) _)
    have hg2 : w.heap.size < (wr.setCell ⟨w.heap.size,k,none⟩ (.int .u8 (lkB key n t k))).heap.size:=by simpa using hg
    generalize lkB key n t k = y at *
    go_wp2_with fail
    go_roundw
    case rel => exact ⟨k + 1,by omega,by go_num,HS.out,HB2.out,hg2⟩
    case measure => simp [intOf];omega
  · have hcv:=conv_lk 120 9 5 Tryz.underlying120 Tryz.underlying5 Tryz.underlying9 (cap:=t.size) hL (by omega)
    have HB:=qH hB
    clear hL hB
    go_wp2_with fail
    go_ret
    exact ⟨rfl,HB.out⟩
theorem implLock_any (key : ByteArray) (n : Int) (t : ByteArray) (w : World) (hk : key.size <= maxLen) (ht : t.size <= maxLen) :
 Calls Tryz.prog 148 #[.string key,.int .i64 n,.string t] w fun e w' => e = .returned (.string (lockS key n t)) /\ Below w.heap.size w w':=by
 unfold maxLen at ht
 cases hs : secR key
 · have HF:=qH (lockS_no (key:=key) (n:=n) (t:=t) (fun h => by rw [secR_yes h.1.1 h.1.2] at hs;cases hs)).symm
   go_enter Tryz.func148,Tryz.ntmps148
   go_wp2_with fail
   refine (secretOk_any key _ hk).mono ?_
   rintro e w1 ⟨rfl,rfl⟩
   rw [hs]
   go_wp2_with fail
   go_ret
   exact ⟨ret_string HF.out,Below.refl _ _⟩
 · obtain ⟨h1,h2⟩:=secR_iff.1 hs
   by_cases hn : 0 <= n /\ n <= 1000000
   · have hd : decide (0 <= n /\ n <= 1000000) = true:=decide_eq_true hn
     by_cases h40 : t.size <= 40
     · have HF:=qH (lockS_yes (key:=key) (n:=n) (t:=t) ⟨⟨h1,h2⟩,hn,h40⟩).symm
       obtain ⟨m,rfl⟩:=Int.eq_ofNat_of_zero_le hn.1
       go_enter Tryz.func148,Tryz.ntmps148
       go_wp2_with fail
       refine (secretOk_any key _ hk).mono ?_
       rintro e w1 ⟨rfl,rfl⟩
       rw [hs]
       go_wp2_with fail
       refine (isTime_any _ _).mono ?_
       rintro e w1 ⟨rfl,rfl⟩
       rw [hd]
       go_wp2_with fail
       refine (turned_any key m t _ h1 h2 (by omega) (by omega)).mono ?_
       rintro e w2 ⟨rfl,hb⟩
       go_wp2_with fail
       go_ret
       exact ⟨ret_string HF.out,hb⟩
     · have HF:=qH (lockS_no (key:=key) (n:=n) (t:=t) (fun h => h40 h.2.2)).symm
       go_enter Tryz.func148,Tryz.ntmps148
       go_wp2_with fail
       refine (secretOk_any key _ hk).mono ?_
       rintro e w1 ⟨rfl,rfl⟩
       rw [hs]
       go_wp2_with fail
       refine (isTime_any _ _).mono ?_
       rintro e w1 ⟨rfl,rfl⟩
       rw [hd]
       go_wp2_with fail
       go_ret
       exact ⟨ret_string HF.out,Below.refl _ _⟩
   · have hd : decide (0 <= n /\ n <= 1000000) = false:=decide_eq_false hn
     have HF:=qH (lockS_no (key:=key) (n:=n) (t:=t) (fun h => hn h.2.1)).symm
     go_enter Tryz.func148,Tryz.ntmps148
     go_wp2_with fail
     refine (secretOk_any key _ hk).mono ?_
     rintro e w1 ⟨rfl,rfl⟩
     rw [hs]
     go_wp2_with fail
     refine (isTime_any _ _).mono ?_
     rintro e w1 ⟨rfl,rfl⟩
     rw [hd]
     go_wp2_with fail
     go_ret
     exact ⟨ret_string HF.out,Below.refl _ _⟩
end Go.Proofs.YtgafndgnmadcfaaGreatDoor
