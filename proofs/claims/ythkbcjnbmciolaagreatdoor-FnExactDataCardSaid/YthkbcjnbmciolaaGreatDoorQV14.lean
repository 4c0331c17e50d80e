/- Used by the law. -/
import Derived.WalkLawsBesides
import Derived.Recover
import Derived.Laws.IdiomStrings
import Derived.Test.YthkbcjnbmciolaaGreatDoorQV13
set_option maxRecDepth 100000
set_option maxHeartbeats 16000000
namespace Go.Proofs.YthkbcjnbmciolaaGreatDoor
open Go.RowKit Go.PlainAid G MGet MGF IRow MNum MJoin
set_option linter.unusedVariables false
def sN (u : ByteArray) (q : Nat × Bool) : Int × (Nat × Bool):=if (rdS u q.1 10 0 0).2.2 = 0 then ((rdS u q.1 10 0 0).1,((rdS u q.1 10 0 0).2.1.toNat,q.2)) else (0,(q.1,true))
def sT (u : ByteArray) (q : Nat × Bool) : ByteArray × (Nat × Bool):=if (txtS u q.1).2.2 = 0 then ((txtS u q.1).1,((txtS u q.1).2.1.toNat,q.2)) else (⟨#[]⟩,(q.1,true))
theorem sN_bad {u : ByteArray} {q : Nat × Bool} (h : q.2 = true) : (sN u q).2.2 = true:=by unfold sN;split <;> simp [h]
theorem sT_bad {u : ByteArray} {q : Nat × Bool} (h : q.2 = true) : (sT u q).2.2 = true:=by unfold sT;split <;> simp [h]
theorem sN_no {u : ByteArray} {q : Nat × Bool} (h : (rdS u q.1 10 0 0).2.2 ≠ 0) : sN u q = (0,(q.1,true)):=by unfold sN;rw [if_neg h]
theorem sT_no {u : ByteArray} {q : Nat × Bool} (h : (txtS u q.1).2.2 ≠ 0) : sT u q = (⟨#[]⟩,(q.1,true)):=by unfold sT;rw [if_neg h]
theorem sN_yes {u : ByteArray} {q : Nat × Bool} (h : (rdS u q.1 10 0 0).2.2 = 0) : rdS u q.1 10 0 0 = ((sN u q).1,(((sN u q).2.1 : Nat) : Int),0) /\ (sN u q).2.2 = q.2 /\ (sN u q).2.1 <= u.size:=by
 have hp:=rd_place u q.1 10 0 0 h
 unfold sN
 rw [if_pos h]
 dsimp only
 refine ⟨?_,rfl,by omega⟩
 rw [Int.toNat_of_nonneg (by omega)]
 exact Prod.ext rfl (Prod.ext rfl h)
theorem txt_place {u : ByteArray} {a : Nat} (h : (txtS u a).2.2 = 0) : 0 <= (txtS u a).2.1 /\ (txtS u a).2.1 <= (u.size : Int):=by
 unfold txtS at h ⊢
 split at h
 · rename_i h1;exact absurd h h1
 · rename_i h1
   rw [if_neg h1]
   split at h
   · exact absurd h (by decide)
   · rename_i h2
     rw [if_neg h2]
     split at h
     · exact absurd h (by decide)
     · rename_i h3
       rw [if_neg h3]
       have hp:=rd_place u a 10 0 0 (by simpa using h1)
       dsimp only
       omega
theorem sT_yes {u : ByteArray} {q : Nat × Bool} (h : (txtS u q.1).2.2 = 0) : txtS u q.1 = ((sT u q).1,(((sT u q).2.1 : Nat) : Int),0) /\ (sT u q).2.2 = q.2 /\ (sT u q).2.1 <= u.size:=by
 have hp:=txt_place h
 unfold sT
 rw [if_pos h]
 dsimp only
 refine ⟨?_,rfl,by omega⟩
 rw [Int.toNat_of_nonneg (by omega)]
 exact Prod.ext rfl (Prod.ext rfl h)
structure RB (w : World) (b : Nat) (u : ByteArray) (p : Int) : Prop where
 lt : b < w.heap.size
 c0 : w.cell? ⟨b,0,none⟩ = some (.string u)
 c1 : w.cell? ⟨b,1,none⟩ = some (.int .i64 p)
 free : w.frozen? ⟨b,1,none⟩ = false
theorem RB.below {w w' : World} {b : Nat} {u : ByteArray} {p : Int} (k : RB w b u p) (hb : Below w.heap.size w w') : RB w' b u p :=
 ⟨Nat.lt_of_lt_of_le k.lt hb.size,(hb.cell (p:=⟨b,0,none⟩) k.lt).trans k.c0,(hb.cell (p:=⟨b,1,none⟩) k.lt).trans k.c1,(hb.frozen (p:=⟨b,1,none⟩) k.lt).trans k.free⟩
theorem RB.put {w : World} {b : Nat} {u : ByteArray} {p : Int} (k : RB w b u p) (q : Int) : RB (w.setCell ⟨b,1,none⟩ (.int .i64 q)) b u q:=by
 obtain ⟨lt,c0,c1,free⟩:=k
 exact ⟨by simpa using lt,(World.cell?_setCell_other _ ⟨b,1,none⟩ ⟨b,0,none⟩ _ (by simp)).trans c0,World.cell?_setCell_same _ _ _ c1,by simpa using free⟩
theorem must_yes (w : World) : Calls Tryz.prog 129 #[.bool true] w fun e w' => e = .returned (.tuple #[]) /\ w = w':=by
 go_enter Tryz.func129,Tryz.ntmps129
 go_wp2
 go_end0
 exact ⟨rfl,rfl⟩
theorem must_no (w : World) : Calls Tryz.prog 129 #[.bool false] w fun e w' => e = .panicked [{ v:=errV 3,recovered:=false }] /\ w = w':=by
 go_enter Tryz.func129,Tryz.ntmps129
 go_wp2
 exact ⟨rfl,rfl,rfl⟩
theorem num_ok (b : Nat) (u : ByteArray) (a p : Nat) (n : Int) (w : World) (hR : RB w b u (a : Int)) (hu : u.size <= 8000) (ha : a <= u.size) (h : rdS u a 10 0 0 = (n,(p : Int),0)) :
 Calls Tryz.prog 128 #[.pointer (some ⟨b,0,none⟩)] w fun e w' => e = .returned (.int .i64 n) /\ RB w' b u (p : Int) /\ w.grownBy w' (some b):=by
 have HRD : Hid (∀ v : World,Calls Tryz.prog 149 #[.string u,.int .i64 (a : Int)] v fun e w' => e = .returned (.tuple #[.int .i64 n,.int .i64 (p : Int),.nilIface]) /\ Below v.heap.size v w'):=qH (fun v => by
  have hc:=readNum_any u a v (by omega) hu
  rw [h,readV_ok] at hc
  exact hc)
 have HR:=qH hR
 have hFn:=hR.below (Below.refl _ _).drew
 have hBn : Below w.heap.size w w.drew:=(Below.refl _ _).drew
 clear h hR
 go_enter Tryz.func128,Tryz.ntmps128
 go_wp2_with fail
 go_region_held3 (fun v => v.cell? ⟨b,0,none⟩ = some (.string u) /\ v.cell? ⟨b,1,none⟩ = some (.int .i64 (a : Int))) (exact ⟨hFn.c0,hFn.c1⟩)
  (first
   | (go_at_call 149;refine Calls.mono (HRD.out _) ?_;rintro e w1 ⟨rfl,hb⟩;have hFn:=hFn.below hb;have hBn:=hBn.trans (hb.mono hBn.size)))
 all_goals
  have hc1:=hFn.c1
  have hfz:=hFn.free
  have HF:=qH hFn
  have HBn:=qH hBn
  clear hFn hBn
  go_wp2_with fail
  refine (must_yes _).mono ?_
  rintro e w2 ⟨rfl,rfl⟩
  go_wp2_with fail
  go_ret
  exact ⟨rfl,HF.out.put _,grown_trans (fg_below HBn.out) (grown_set _ b 1 _)⟩
theorem num_bad (b : Nat) (u : ByteArray) (a : Nat) (w : World) (hR : RB w b u (a : Int)) (hu : u.size <= 8000) (ha : a <= u.size) (h : (rdS u a 10 0 0).2.2 ≠ 0) :
 Calls Tryz.prog 128 #[.pointer (some ⟨b,0,none⟩)] w fun e w' => e = .panicked [{ v:=errV 3,recovered:=false }] /\ Below w.heap.size w w':=by
 obtain ⟨c,hc⟩ : ∃ c,c = (rdS u a 10 0 0).2.2:=⟨_,rfl⟩
 have HRD : Hid (∀ v : World,Calls Tryz.prog 149 #[.string u,.int .i64 (a : Int)] v fun e w' => e = .returned (.tuple #[.int .i64 0,.int .i64 0,errV c]) /\ Below v.heap.size v w'):=qH (fun v => by
  have hq:=readNum_any u a v (by omega) hu
  rw [rd_zero u a 10 0 0 h,readV_err h,<- hc] at hq
  exact hq)
 have hFn:=hR.below (Below.refl _ _).drew
 have hBn : Below w.heap.size w w.drew:=(Below.refl _ _).drew
 unfold errV at HRD
 clear h hR hc
 go_enter Tryz.func128,Tryz.ntmps128
 go_wp2_with fail
 go_region_held3 (fun v => v.cell? ⟨b,0,none⟩ = some (.string u) /\ v.cell? ⟨b,1,none⟩ = some (.int .i64 (a : Int))) (exact ⟨hFn.c0,hFn.c1⟩)
  (first
   | (go_at_call 149;refine Calls.mono (HRD.out _) ?_;rintro e w1 ⟨rfl,hb⟩;have hFn:=hFn.below hb;have hBn:=hBn.trans (hb.mono hBn.size)))
 all_goals
  have HBn:=qH hBn
  clear hFn hBn
  go_wp2_with fail
  refine (must_no _).mono ?_
  rintro e w2 ⟨rfl,rfl⟩
  go_wp2_with fail
  exact ⟨rfl,rfl,HBn.out⟩
theorem text_ok (b : Nat) (u : ByteArray) (a p : Nat) (t : ByteArray) (w : World) (hR : RB w b u (a : Int)) (hu : u.size <= 8000) (ha : a <= u.size) (h : txtS u a = (t,(p : Int),0)) :
 Calls Tryz.prog 152 #[.pointer (some ⟨b,0,none⟩)] w fun e w' => e = .returned (.string t) /\ RB w' b u (p : Int) /\ w.grownBy w' (some b):=by
 have HRD : Hid (∀ v : World,Calls Tryz.prog 124 #[.string u,.int .i64 (a : Int)] v fun e w' => e = .returned (.tuple #[.string t,.int .i64 (p : Int),.nilIface]) /\ Below v.heap.size v w'):=qH (fun v => by
  have hc:=readText_any u a v (by omega) hu
  rw [h,textV_ok] at hc
  exact hc)
 have hFn:=hR.below (Below.refl _ _).drew
 have hBn : Below w.heap.size w w.drew:=(Below.refl _ _).drew
 clear h hR
 go_enter Tryz.func152,Tryz.ntmps152
 go_wp2_with fail
 go_region_held3 (fun v => v.cell? ⟨b,0,none⟩ = some (.string u) /\ v.cell? ⟨b,1,none⟩ = some (.int .i64 (a : Int))) (exact ⟨hFn.c0,hFn.c1⟩)
  (first
   | (go_at_call 124;refine Calls.mono (HRD.out _) ?_;rintro e w1 ⟨rfl,hb⟩;have hFn:=hFn.below hb;have hBn:=hBn.trans (hb.mono hBn.size)))
 all_goals
  have hc1:=hFn.c1
  have hfz:=hFn.free
  have HF:=qH hFn
  have HBn:=qH hBn
  clear hFn hBn
  go_wp2_with fail
  refine (must_yes _).mono ?_
  rintro e w2 ⟨rfl,rfl⟩
  go_wp2_with fail
  go_ret
  exact ⟨rfl,HF.out.put _,grown_trans (fg_below HBn.out) (grown_set _ b 1 _)⟩
theorem text_bad (b : Nat) (u : ByteArray) (a : Nat) (w : World) (hR : RB w b u (a : Int)) (hu : u.size <= 8000) (ha : a <= u.size) (h : (txtS u a).2.2 ≠ 0) :
 Calls Tryz.prog 152 #[.pointer (some ⟨b,0,none⟩)] w fun e w' => e = .panicked [{ v:=errV 3,recovered:=false }] /\ Below w.heap.size w w':=by
 obtain ⟨c,hc⟩ : ∃ c,c = (txtS u a).2.2:=⟨_,rfl⟩
 have HRD : Hid (∀ v : World,Calls Tryz.prog 124 #[.string u,.int .i64 (a : Int)] v fun e w' => e = .returned (.tuple #[.string ⟨#[]⟩,.int .i64 0,errV c]) /\ Below v.heap.size v w'):=qH (fun v => by
  have hq:=readText_any u a v (by omega) hu
  rw [txt_zero u a h,textV_err h,<- hc] at hq
  exact hq)
 have hFn:=hR.below (Below.refl _ _).drew
 have hBn : Below w.heap.size w w.drew:=(Below.refl _ _).drew
 unfold errV at HRD
 clear h hR hc
 go_enter Tryz.func152,Tryz.ntmps152
 go_wp2_with fail
 go_region_held3 (fun v => v.cell? ⟨b,0,none⟩ = some (.string u) /\ v.cell? ⟨b,1,none⟩ = some (.int .i64 (a : Int))) (exact ⟨hFn.c0,hFn.c1⟩)
  (first
   | (go_at_call 124;refine Calls.mono (HRD.out _) ?_;rintro e w1 ⟨rfl,hb⟩;have hFn:=hFn.below hb;have hBn:=hBn.trans (hb.mono hBn.size)))
 all_goals
  have HBn:=qH hBn
  clear hFn hBn
  go_wp2_with fail
  refine (must_no _).mono ?_
  rintro e w2 ⟨rfl,rfl⟩
  go_wp2_with fail
  exact ⟨rfl,rfl,HBn.out⟩
theorem unsealed_ok (s t : ByteArray) (w : World) (hs : s.size <= maxLen) (hg : ET w) (h : openS s = (t,0,0)) :
 Calls Tryz.prog 127 #[.string s] w fun e w' => e = .returned (.string t) /\ Below w.heap.size w w':=by
 have hc:=implUnseal_any s w hs hg
 rw [h] at hc
 have HC:=qH hc
 clear h hc hg
 go_enter Tryz.func127,Tryz.ntmps127
 go_wp2_with fail
 refine HC.out.mono ?_
 rintro e w1 ⟨rfl,hb⟩
 unfold textOutV
 dsimp only
 have HB:=qH (hb.alloc hb.size (.cells #[.string t,.int .i64 0,.int .i64 0] 136))
 clear hb
 go_wp2_with fail
 go_ret
 exact ⟨rfl,HB.out⟩
theorem unsealed_bad (s : ByteArray) (w : World) (hs : s.size <= maxLen) (hg : ET w) (h : (openS s).2.2 ≠ 0) :
 Calls Tryz.prog 127 #[.string s] w fun e w' => e = .panicked [{ v:=errV (openS s).2.2,recovered:=false }] /\ Below w.heap.size w w':=by
 have hc:=implUnseal_any s w hs hg
 rw [openS_zero s h] at hc
 obtain ⟨c,hcc⟩ : ∃ c,c = (openS s).2.2:=⟨_,rfl⟩
 rw [<- hcc] at hc h ⊢
 have HC:=qH hc
 have hcb : (c != 0) = true:=by simp [h]
 clear h hc hg hcc
 go_enter Tryz.func127,Tryz.ntmps127
 go_wp2_with fail
 refine HC.out.mono ?_
 rintro e w1 ⟨rfl,hb⟩
 unfold textOutV
 dsimp only
 have HB:=qH (hb.alloc hb.size (.cells #[.string ⟨#[]⟩,.int .i64 0,.int .i64 c] 136))
 clear hb
 go_wp2_with fail
 exact ⟨rfl,rfl,HB.out⟩
end Go.Proofs.YthkbcjnbmciolaaGreatDoor
namespace Go.Proofs.YthkbcjnbmciolaaGreatDoor
open Go.RowKit Go.PlainAid G
set_option linter.unusedVariables false
def secR (t : ByteArray) : Bool:=decide (1 <= t.size /\ t.size <= 16)
theorem secR_yes {t : ByteArray} (h1 : 1 <= t.size) (h2 : t.size <= 16) : secR t = true:=decide_eq_true ⟨h1,h2⟩
theorem secR_no {t : ByteArray} (h : ¬ (1 <= t.size /\ t.size <= 16)) : secR t = false:=decide_eq_false h
theorem secR_iff {t : ByteArray} : secR t = true ↔ 1 <= t.size /\ t.size <= 16:=decide_eq_true_iff
def lkB (key : ByteArray) (n : Nat) (t : ByteArray) (k : Nat) : Int:=bits .xor .u8 (bt t k) (bt key ((k + n) % key.size))
def lkL (key : ByteArray) (n : Nat) (t : ByteArray) : List Int:=(List.range t.size).map (lkB key n t)
def lkS (key : ByteArray) (n : Nat) (t : ByteArray) : ByteArray:=strOfNums (lkL key n t)
theorem lkS_size (key : ByteArray) (n : Nat) (t : ByteArray) : (lkS key n t).size = t.size:=by unfold lkS lkL;rw [strOfNums_size];simp
def lkOk (key : ByteArray) (n : Int) (t : ByteArray) : Prop:=(1 <= key.size /\ key.size <= 16) /\ (0 <= n /\ n <= 1000000) /\ t.size <= 40
instance (key : ByteArray) (n : Int) (t : ByteArray) : Decidable (lkOk key n t):=by unfold lkOk;infer_instance
def lockS (key : ByteArray) (n : Int) (t : ByteArray) : ByteArray:=if lkOk key n t then lkS key n.toNat t else ⟨#[]⟩
theorem lockS_yes {key : ByteArray} {n : Int} {t : ByteArray} (h : lkOk key n t) : lockS key n t = lkS key n.toNat t:=if_pos h
theorem lockS_no {key : ByteArray} {n : Int} {t : ByteArray} (h : ¬ lkOk key n t) : lockS key n t = ⟨#[]⟩:=if_neg h
structure LkAt (w : World) (g n : Nat) (f : Nat -> Int) : Prop where
 cell : ∀ i,i < n -> w.cell? ⟨g,i,none⟩ = some (.int .u8 (f i))
 free : ∀ i,i < n -> w.frozen? ⟨g,i,none⟩ = false
theorem LkAt.drew {w : World} {g n : Nat} {f : Nat -> Int} (h : LkAt w g n f) : LkAt w.drew g n f:=⟨h.cell,h.free⟩
theorem LkAt.congr {w : World} {g n : Nat} {f f' : Nat -> Int} (h : LkAt w g n f) (he : ∀ i,i < n -> f i = f' i) : LkAt w g n f' :=
 ⟨fun i hi => by rw [h.cell i hi,he i hi],h.free⟩
theorem LkAt.set {w : World} {g n k : Nat} {f : Nat -> Int} (h : LkAt w g n f) (y : Int) : LkAt (w.setCell ⟨g,k,none⟩ (.int .u8 y)) g n (fun i => if i = k then y else f i):=by
 constructor
 · intro i hi
   by_cases hij : i = k
   · subst hij
     rw [World.cell?_setCell_same _ _ _ (h.cell i hi),if_pos rfl]
   · rw [World.cell?_setCell_other _ _ _ _ (by intro h2;simp_all),h.cell i hi,if_neg hij]
 · intro i hi
   rw [World.frozen?_setCell]
   exact h.free i hi
def lkM (key : ByteArray) (n : Nat) (t : ByteArray) (old : Nat -> Int) (k i : Nat) : Int:=if i < k then lkB key n t i else old i
theorem lkM_step (key : ByteArray) (n : Nat) (t : ByteArray) (old : Nat -> Int) (k i : Nat) : (if i = k then lkB key n t k else lkM key n t old k i) = lkM key n t old (k + 1) i:=by
 unfold lkM
 by_cases h : i = k
 · subst h
   rw [if_pos rfl,if_pos (by omega)]
 · rw [if_neg h]
   by_cases h2 : i < k
   · rw [if_pos h2,if_pos (by omega)]
   · rw [if_neg h2,if_neg (by omega)]
theorem conv_lk {P : Program} {w : World} (src dst e : TypeId) (hs : P.underlying src = some (.slice e)) (he : P.underlying e = some (.int .u8)) (hd : P.underlying dst = some .string)
 {g cap k : Nat} {key t : ByteArray} {n : Nat} {old : Nat -> Int} (h : LkAt w g t.size (lkM key n t old k)) (hk : t.size <= k) :
 (convert src dst (.slice (some ⟨g,0,none⟩) t.size cap)).run P w = .ok (.string (lkS key n t)) w:=by
 refine run_convert_bytes_arg (P:=P) _ src e hs he g 0 t.size cap _ (by simp [lkL]) (fun i hi => ?_) dst hd
 rw [Nat.zero_add,h.cell i hi]
 unfold lkM lkL
 rw [if_pos (by omega)]
 simp [List.getD,hi]
theorem lk_bytes (w : World) (e : TypeId) (s : ByteArray) : LkAt (Lib.bytesWorld w e s) w.heap.size s.size (bt s):=by
 constructor
 · intro i hi
   rw [Lib.bytesWorld_cell w e s i hi]
   have h2 : i < s.data.toList.length:=by simpa using hi
   unfold bt
   rw [dif_pos hi,List.getD_eq_getElem?_getD,List.getElem?_eq_getElem h2]
   rfl
 · intro i hi
   unfold World.frozen?
   simp only [Lib.bytesWorld_at_new]
   have hsz : s.size <= (Lib.bytesCells w e s).size:=by simp [Lib.bytesCells]
   simp
   omega
theorem below_lk (w : World) (e : TypeId) (s : ByteArray) : Below w.heap.size w (Lib.bytesWorld w e s) :=
 ⟨rfl,rfl,rfl,by rw [Lib.bytesWorld_size];omega,fun k hk => Lib.bytesWorld_at_old w e s k hk⟩
theorem secretOk_any (t : ByteArray) (w : World) (ht : t.size <= maxLen) :
 Calls Tryz.prog 59 #[.string t] w fun e w' => e = .returned (.bool (secR t)) /\ w = w':=by
 unfold maxLen at ht
 by_cases h1 : 1 <= t.size
 · by_cases h2 : t.size <= 16
   · have HF:=qH (secR_yes h1 h2).symm
     go_enter Tryz.func59,Tryz.ntmps59
     go_wp2
     go_ret
     exact ⟨ret_bool (by rw [<- HF.out];simp;omega),rfl⟩
   · have HF:=qH (secR_no (t:=t) (by omega)).symm
     go_enter Tryz.func59,Tryz.ntmps59
     go_wp2
     go_ret
     exact ⟨ret_bool (by rw [<- HF.out];simp;omega),rfl⟩
 · have HF:=qH (secR_no (t:=t) (by omega)).symm
   have h0 : t.size = 0:=by omega
   go_enter Tryz.func59,Tryz.ntmps59
   go_wp2
   go_ret
   exact ⟨ret_bool HF.out,rfl⟩
theorem l04SecretOk_any (t : ByteArray) (w : World) (ht : t.size <= maxLen) :
 Calls Tryz.prog 48 #[.string t] w fun e w' => e = .returned (.bool (secR t)) /\ w = w':=by
 unfold maxLen at ht
 by_cases h1 : 1 <= t.size
 · by_cases h2 : t.size <= 16
   · have HF:=qH (secR_yes h1 h2).symm
     go_enter Tryz.func48,Tryz.ntmps48
     go_wp2
     go_ret
     exact ⟨ret_bool (by rw [<- HF.out];simp;omega),rfl⟩
   · have HF:=qH (secR_no (t:=t) (by omega)).symm
     go_enter Tryz.func48,Tryz.ntmps48
     go_wp2
     go_ret
     exact ⟨ret_bool (by rw [<- HF.out];simp;omega),rfl⟩
 · have HF:=qH (secR_no (t:=t) (by omega)).symm
   have h0 : t.size = 0:=by omega
   go_enter Tryz.func48,Tryz.ntmps48
   go_wp2
   go_ret
   exact ⟨ret_bool HF.out,rfl⟩
theorem l02IsOk_any (n low high : Int) (w : World) :
 Calls Tryz.prog 42 #[.int .i64 n,.int .i64 low,.int .i64 high] w fun e w' => e = .returned (.bool (decide (low <= n /\ n <= high))) /\ w = w':=by
 by_cases h1 : low <= n
 · by_cases h2 : n <= high
   · go_enter Tryz.func42,Tryz.ntmps42
     go_wp2_with fail
     go_ret
     exact ⟨ret_bool (by simp [h1,h2]),rfl⟩
   · go_enter Tryz.func42,Tryz.ntmps42
     go_wp2_with fail
     go_ret
     exact ⟨ret_bool (by simp [h2]),rfl⟩
 · go_enter Tryz.func42,Tryz.ntmps42
   go_wp2_with fail
   go_ret
   exact ⟨ret_bool (by simp;omega),rfl⟩
theorem isTime_any (n : Int) (w : World) :
 Calls Tryz.prog 55 #[.int .i64 n] w fun e w' => e = .returned (.bool (decide (0 <= n /\ n <= 1000000))) /\ w = w':=by
 by_cases h1 : 0 <= n
 · by_cases h2 : n <= 1000000
   · go_enter Tryz.func55,Tryz.ntmps55
     go_wp2_with fail
     go_ret
     exact ⟨ret_bool (by simp [h1,h2]),rfl⟩
   · go_enter Tryz.func55,Tryz.ntmps55
     go_wp2_with fail
     go_ret
     exact ⟨ret_bool (by simp [h2]),rfl⟩
 · go_enter Tryz.func55,Tryz.ntmps55
   go_wp2_with fail
   go_ret
   exact ⟨ret_bool (by simp;omega),rfl⟩
def chkT : ByteArray:=⟨#[99,104,101,99,107,32]⟩
def checkI (m : ByteArray) : Int:=if secR m = true then crcI (chkT ++ m) else -1
theorem specCheckOf_any (m : ByteArray) (w : World) (hm : m.size <= maxLen) :
 Calls Tryz.prog 18 #[.string m] w fun e w' => e = .returned (.int .i64 (checkI m)) /\ w = w':=by
 cases hs : secR m
 · have HF : Hid (-1 = checkI m):=qH (by unfold checkI;rw [hs];rfl)
   go_enter Tryz.func18,Tryz.ntmps18
   go_wp2_with fail
   refine (l04SecretOk_any m _ hm).mono ?_
   rintro e w1 ⟨rfl,rfl⟩
   rw [hs]
   go_wp2_with fail
   go_ret
   exact ⟨ret_int HF.out,rfl⟩
 · obtain ⟨h1,h2⟩:=secR_iff.1 hs
   have HF : Hid (crcI (chkT ++ m) = checkI m):=qH (by unfold checkI;rw [if_pos hs])
   have hz : (chkT ++ m).size <= maxLen:=by rw [ByteArray.size_append];have : chkT.size = 6:=rfl;unfold maxLen;omega
   have HZ:=qH hz
   clear hz
   go_enter Tryz.func18,Tryz.ntmps18
   go_wp2_with fail
   refine (l04SecretOk_any m _ hm).mono ?_
   rintro e w1 ⟨rfl,rfl⟩
   rw [hs]
   go_wp2_with fail
   refine (specCrc_any (chkT ++ m) _ HZ.out).mono ?_
   rintro e w2 ⟨rfl,rfl⟩
   go_wp2_with fail
   go_ret
   exact ⟨ret_int HF.out,rfl⟩
theorem implCheckOf_any (m : ByteArray) (w : World) (hm : m.size <= maxLen) :
 Calls Tryz.prog 26 #[.string m] w fun e w' => e = .returned (.int .i64 (checkI m)) /\ Below w.heap.size w w':=by
 cases hs : secR m
 · have HF : Hid (-1 = checkI m):=qH (by unfold checkI;rw [hs];rfl)
   go_enter Tryz.func26,Tryz.ntmps26
   go_wp2_with fail
   refine (secretOk_any m _ hm).mono ?_
   rintro e w1 ⟨rfl,rfl⟩
   rw [hs]
   go_wp2_with fail
   go_ret
   exact ⟨ret_int HF.out,Below.refl _ _⟩
 · obtain ⟨h1,h2⟩:=secR_iff.1 hs
   have HF : Hid (crcI (chkT ++ m) = checkI m):=qH (by unfold checkI;rw [if_pos hs])
   have hz : (chkT ++ m).size <= maxLen:=by rw [ByteArray.size_append];have : chkT.size = 6:=rfl;unfold maxLen;omega
   have HZ:=qH hz
   clear hz
   go_enter Tryz.func26,Tryz.ntmps26
   go_wp2_with fail
   refine (secretOk_any m _ hm).mono ?_
   rintro e w1 ⟨rfl,rfl⟩
   rw [hs]
   go_wp2_with fail
   refine (joined_two chkT m 9 _ (by decide) (by omega)).mono ?_
   rintro e w2 ⟨rfl,hb2⟩
   go_wp2_with fail
   refine (implCrc_any (chkT ++ m) _ HZ.out).mono ?_
   rintro e w3 ⟨rfl,rfl⟩
   go_wp2_with fail
   go_ret
   exact ⟨ret_int HF.out,hb2⟩
def azTo (t : ByteArray) (k : Nat) : Bool:=(List.range k).all fun i => decide (97 <= bt t i /\ bt t i <= 122)
theorem azTo_zero (t : ByteArray) : azTo t 0 = true:=rfl
theorem azTo_succ {t : ByteArray} {k : Nat} (h : azTo t k = true) (h1 : 97 <= bt t k) (h2 : bt t k <= 122) : azTo t (k + 1) = true:=by
 unfold azTo at h ⊢
 rw [List.range_succ,List.all_append,h]
 simp [h1,h2]
theorem azTo_no {t : ByteArray} {k n : Nat} (hk : k < n) (h : ¬ (97 <= bt t k /\ bt t k <= 122)) : azTo t n = false:=by
 unfold azTo
 rw [List.all_eq_false]
 exact ⟨k,List.mem_range.2 hk,by simp only [decide_eq_true_eq];exact h⟩
def wordB (t : ByteArray) : Bool:=decide (1 <= t.size /\ t.size <= 8) && azTo t t.size
theorem wordB_no {t : ByteArray} {k : Nat} (hk : k < t.size) (h : ¬ (97 <= bt t k /\ bt t k <= 122)) : wordB t = false:=by unfold wordB;rw [azTo_no hk h,Bool.and_false]
theorem wordB_size {t : ByteArray} (h : wordB t = true) : 1 <= t.size /\ t.size <= 8:=by unfold wordB at h;rw [Bool.and_eq_true,decide_eq_true_eq] at h;exact h.1
theorem wordB_at {t : ByteArray} (h : azTo t t.size = true) : wordB t = decide (1 <= t.size /\ t.size <= 8):=by unfold wordB;rw [h,Bool.and_true]
def nums3B (g n m : Int) : Bool:=decide (1 <= g /\ g <= 999) && decide (1 <= n /\ n <= 10) && decide (n <= m /\ m <= 20)
def confB (g n m c : Int) : Bool:=nums3B g n m && decide (0 <= c /\ c <= 4294967295)
def termB (no : Int) (lk : ByteArray) : Bool:=decide (1 <= no /\ no <= 5) && secR lk
def itemB (nm : ByteArray) (tm : Int) (bd : ByteArray) : Bool:=wordB nm && decide (1 <= tm /\ tm <= 5) && decide (1 <= bd.size /\ bd.size <= 20)
theorem confB_iff {g n m c : Int} : confB g n m c = true ↔ (1 <= g /\ g <= 999) /\ (1 <= n /\ n <= 10) /\ (n <= m /\ m <= 20) /\ (0 <= c /\ c <= 4294967295):=by
 unfold confB nums3B
 simp only [Bool.and_eq_true,decide_eq_true_eq,and_assoc]
theorem termB_iff {no : Int} {lk : ByteArray} : termB no lk = true ↔ (1 <= no /\ no <= 5) /\ (1 <= lk.size /\ lk.size <= 16):=by
 unfold termB
 rw [Bool.and_eq_true,decide_eq_true_eq,secR_iff]
theorem itemB_iff {nm : ByteArray} {tm : Int} {bd : ByteArray} : itemB nm tm bd = true ↔ wordB nm = true /\ (1 <= tm /\ tm <= 5) /\ (1 <= bd.size /\ bd.size <= 20):=by
 unfold itemB
 simp only [Bool.and_eq_true,decide_eq_true_eq,and_assoc]
def ltS (a b : ByteArray) : Bool:=Op.bytesLess a.toList b.toList
theorem specWord_any (t : ByteArray) (w : World) (ht : t.size <= maxLen) :
 Calls Tryz.prog 146 #[.string t] w fun e w' => e = .returned (.bool (wordB t)) /\ w = w':=by
 unfold maxLen at ht
 go_enter Tryz.func146,Tryz.ntmps146
 go_wp2_with fail
 go_loop [3] (fun i => ∃ k : Nat,k <= t.size /\ i = .int .i64 k /\ Hid (azTo t k = true)) (fun i => t.size - (intOf i).toNat)
 case atStart => exact ⟨0,Nat.zero_le _,rfl,qH (azTo_zero t)⟩
 case round =>
  obtain ⟨k,hk,rfl,HA⟩:=hrel
  by_cases hlt : k < t.size
  · have hb : ((t[k]'hlt).toNat : Int) = bt t k:=by unfold bt;rw [dif_pos hlt]
    have HB:=qH hb
    have hin : (k : Int) < (t.size : Int):=by omega
    by_cases h1 : 97 <= bt t k
    · by_cases h2 : bt t k <= 122
      · have HS:=qH (azTo_succ HA.out h1 h2)
        have g1 : ¬ ((t[k]'hlt).toNat : Int) < 97:=by rw [hb];omega
        have g2 : ¬ (122 : Int) < ((t[k]'hlt).toNat : Int):=by rw [hb];omega
        clear hb h1 h2
        go_wp2_with fail
        go_round
        case rel => exact ⟨k + 1,by omega,by go_num,HS⟩
        case measure => simp [intOf];omega
      · have HF:=qH (wordB_no hlt (fun h => h2 h.2)).symm
        have g1 : ¬ ((t[k]'hlt).toNat : Int) < 97:=by rw [hb];omega
        have g2 : (122 : Int) < ((t[k]'hlt).toNat : Int):=by rw [hb];omega
        clear hb h1 h2
        go_wp2_with fail
        go_ret
        exact ⟨ret_bool HF.out,rfl⟩
    · have HF:=qH (wordB_no hlt (fun h => h1 h.1)).symm
      have g1 : ((t[k]'hlt).toNat : Int) < 97:=by rw [hb];omega
      clear hb h1
      go_wp2_with fail
      go_ret
      exact ⟨ret_bool HF.out,rfl⟩
  · obtain rfl : k = t.size:=by omega
    have HW:=qH (wordB_at HA.out)
    by_cases h1 : 1 <= t.size
    · by_cases h2 : t.size <= 8
      · have HF : Hid (true = wordB t):=qH (by rw [HW.out];exact (decide_eq_true ⟨h1,h2⟩).symm)
        go_wp2_with fail
        go_ret
        exact ⟨ret_bool (by rw [<- HF.out];simp;omega),rfl⟩
      · have HF : Hid (false = wordB t):=qH (by rw [HW.out];exact (decide_eq_false (by omega)).symm)
        go_wp2_with fail
        go_ret
        exact ⟨ret_bool (by rw [<- HF.out];simp;omega),rfl⟩
    · have HF : Hid (false = wordB t):=qH (by rw [HW.out];exact (decide_eq_false (by omega)).symm)
      go_wp2_with fail
      go_ret
      exact ⟨ret_bool (by rw [<- HF.out];try (simp;omega)),rfl⟩
theorem l05NumsOk_any (g n m : Int) (w : World)  :
 Calls Tryz.prog 73 #[.int .i64 g,.int .i64 n,.int .i64 m] w fun e w' => e = .returned (.bool (nums3B g n m)) /\ w = w':=by
 cases hg : decide (1 <= g /\ g <= 999)
 · skip
   have HF : Hid (false = nums3B g n m):=qH (by unfold nums3B;simp only [hg,Bool.false_and,Bool.and_false,Bool.true_and,Bool.and_true,Bool.and_self])
   go_enter Tryz.func73,Tryz.ntmps73
   go_wp2_with ((go_at_call 42;refine (l02IsOk_any _ _ _ _).mono ?_;rintro e w1 ⟨rfl,rfl⟩;first | rw [hg] | rw [hn] | rw [hm]))
   go_ret
   exact ⟨ret_bool (by first | exact HF.out | (rw [<- HF.out];simp_all)),rfl⟩
 · skip
   cases hn : decide (1 <= n /\ n <= 10)
   · skip
     have HF : Hid (false = nums3B g n m):=qH (by unfold nums3B;simp only [hg,hn,Bool.false_and,Bool.and_false,Bool.true_and,Bool.and_true,Bool.and_self])
     go_enter Tryz.func73,Tryz.ntmps73
     go_wp2_with ((go_at_call 42;refine (l02IsOk_any _ _ _ _).mono ?_;rintro e w1 ⟨rfl,rfl⟩;first | rw [hg] | rw [hn] | rw [hm]))
     go_ret
     exact ⟨ret_bool (by first | exact HF.out | (rw [<- HF.out];simp_all)),rfl⟩
   · skip
     cases hm : decide (n <= m /\ m <= 20)
     · skip
       have HF : Hid (false = nums3B g n m):=qH (by unfold nums3B;simp only [hg,hn,hm,Bool.false_and,Bool.and_false,Bool.true_and,Bool.and_true,Bool.and_self])
       go_enter Tryz.func73,Tryz.ntmps73
       go_wp2_with ((go_at_call 42;refine (l02IsOk_any _ _ _ _).mono ?_;rintro e w1 ⟨rfl,rfl⟩;first | rw [hg] | rw [hn] | rw [hm]))
       go_ret
       exact ⟨ret_bool (by first | exact HF.out | (rw [<- HF.out];simp_all)),rfl⟩
     · skip
       have HF : Hid (true = nums3B g n m):=qH (by unfold nums3B;simp only [hg,hn,hm,Bool.false_and,Bool.and_false,Bool.true_and,Bool.and_true,Bool.and_self])
       go_enter Tryz.func73,Tryz.ntmps73
       go_wp2_with ((go_at_call 42;refine (l02IsOk_any _ _ _ _).mono ?_;rintro e w1 ⟨rfl,rfl⟩;first | rw [hg] | rw [hn] | rw [hm]))
       go_ret
       exact ⟨ret_bool (by first | exact HF.out | (rw [<- HF.out];simp_all)),rfl⟩
theorem l07Conf_any (g n m c : Int) (w : World)  :
 Calls Tryz.prog 143 #[.agg #[.int .i64 g,.int .i64 n,.int .i64 m,.int .i64 c]] w fun e w' => e = .returned (.bool (confB g n m c)) /\ Below w.heap.size w w':=by
 have HB : Hid (Below w.heap.size w (w.alloc (.cells #[.int .i64 g,.int .i64 n,.int .i64 m,.int .i64 c] 39))):=qH ((Below.refl _ _).alloc (Nat.le_refl _) _)
 cases hn : nums3B g n m
 · skip
   have HF : Hid (false = confB g n m c):=qH (by unfold confB;simp only [hn,Bool.false_and,Bool.and_false,Bool.true_and,Bool.and_true,Bool.and_self])
   go_enter Tryz.func143,Tryz.ntmps143
   go_wp2_with (first | (go_at_call 73;refine (l05NumsOk_any _ _ _ _).mono ?_;rintro e w1 ⟨rfl,rfl⟩;rw [hn]) | (go_at_call 42;refine (l02IsOk_any _ _ _ _).mono ?_;rintro e w1 ⟨rfl,rfl⟩;first | rw [hc]))
   go_ret
   exact ⟨ret_bool (by first | exact HF.out | (rw [<- HF.out];simp_all)),HB.out⟩
 · skip
   cases hc : decide (0 <= c /\ c <= 4294967295)
   · skip
     have HF : Hid (false = confB g n m c):=qH (by unfold confB;simp only [hn,hc,Bool.false_and,Bool.and_false,Bool.true_and,Bool.and_true,Bool.and_self])
     go_enter Tryz.func143,Tryz.ntmps143
     go_wp2_with (first | (go_at_call 73;refine (l05NumsOk_any _ _ _ _).mono ?_;rintro e w1 ⟨rfl,rfl⟩;rw [hn]) | (go_at_call 42;refine (l02IsOk_any _ _ _ _).mono ?_;rintro e w1 ⟨rfl,rfl⟩;first | rw [hc]))
     go_ret
     exact ⟨ret_bool (by first | exact HF.out | (rw [<- HF.out];simp_all)),HB.out⟩
   · skip
     have HF : Hid (true = confB g n m c):=qH (by unfold confB;simp only [hn,hc,Bool.false_and,Bool.and_false,Bool.true_and,Bool.and_true,Bool.and_self])
     go_enter Tryz.func143,Tryz.ntmps143
     go_wp2_with (first | (go_at_call 73;refine (l05NumsOk_any _ _ _ _).mono ?_;rintro e w1 ⟨rfl,rfl⟩;rw [hn]) | (go_at_call 42;refine (l02IsOk_any _ _ _ _).mono ?_;rintro e w1 ⟨rfl,rfl⟩;first | rw [hc]))
     go_ret
     exact ⟨ret_bool (by first | exact HF.out | (rw [<- HF.out];simp_all)),HB.out⟩
theorem l07Term_any (no : Int) (lk : ByteArray) (w : World) (ht : lk.size <= maxLen) :
 Calls Tryz.prog 144 #[.agg #[.int .i64 no,.string lk]] w fun e w' => e = .returned (.bool (termB no lk)) /\ Below w.heap.size w w':=by
 have HT:=qH ht
 clear ht
 have HB : Hid (Below w.heap.size w (w.alloc (.cells #[.int .i64 no,.string lk] 97))):=qH ((Below.refl _ _).alloc (Nat.le_refl _) _)
 cases hn : decide (1 <= no /\ no <= 5)
 · skip
   have HF : Hid (false = termB no lk):=qH (by unfold termB;simp only [hn,Bool.false_and,Bool.and_false,Bool.true_and,Bool.and_true,Bool.and_self])
   go_enter Tryz.func144,Tryz.ntmps144
   go_wp2_with (first | (go_at_call 48;refine (l04SecretOk_any _ _ HT.out).mono ?_;rintro e w1 ⟨rfl,rfl⟩;rw [hs]) | (go_at_call 42;refine (l02IsOk_any _ _ _ _).mono ?_;rintro e w1 ⟨rfl,rfl⟩;first | rw [hn]))
   go_ret
   exact ⟨ret_bool (by first | exact HF.out | (rw [<- HF.out];simp_all)),HB.out⟩
 · skip
   cases hs : secR lk
   · skip
     have HF : Hid (false = termB no lk):=qH (by unfold termB;simp only [hn,hs,Bool.false_and,Bool.and_false,Bool.true_and,Bool.and_true,Bool.and_self])
     go_enter Tryz.func144,Tryz.ntmps144
     go_wp2_with (first | (go_at_call 48;refine (l04SecretOk_any _ _ HT.out).mono ?_;rintro e w1 ⟨rfl,rfl⟩;rw [hs]) | (go_at_call 42;refine (l02IsOk_any _ _ _ _).mono ?_;rintro e w1 ⟨rfl,rfl⟩;first | rw [hn]))
     go_ret
     exact ⟨ret_bool (by first | exact HF.out | (rw [<- HF.out];simp_all)),HB.out⟩
   · skip
     have HF : Hid (true = termB no lk):=qH (by unfold termB;simp only [hn,hs,Bool.false_and,Bool.and_false,Bool.true_and,Bool.and_true,Bool.and_self])
     go_enter Tryz.func144,Tryz.ntmps144
     go_wp2_with (first | (go_at_call 48;refine (l04SecretOk_any _ _ HT.out).mono ?_;rintro e w1 ⟨rfl,rfl⟩;rw [hs]) | (go_at_call 42;refine (l02IsOk_any _ _ _ _).mono ?_;rintro e w1 ⟨rfl,rfl⟩;first | rw [hn]))
     go_ret
     exact ⟨ret_bool (by first | exact HF.out | (rw [<- HF.out];simp_all)),HB.out⟩
theorem l07Item_any (nm : ByteArray) (tm : Int) (bd : ByteArray) (w : World) (hn : nm.size <= maxLen) (hb : bd.size <= maxLen) :
 Calls Tryz.prog 145 #[.agg #[.string nm,.int .i64 tm,.string bd]] w fun e w' => e = .returned (.bool (itemB nm tm bd)) /\ Below w.heap.size w w':=by
 have HB : Hid (Below w.heap.size w (w.alloc (.cells #[.string nm,.int .i64 tm,.string bd] 62))):=qH ((Below.refl _ _).alloc (Nat.le_refl _) _)
 have HT:=qH hn
 unfold maxLen at hb
 clear hn
 cases hw : wordB nm
 · have HF : Hid (false = itemB nm tm bd):=qH (by unfold itemB;rw [hw];rfl)
   go_enter Tryz.func145,Tryz.ntmps145
   go_wp2_with (first | (go_at_call 146;refine (specWord_any _ _ HT.out).mono ?_;rintro e w1 ⟨rfl,rfl⟩;rw [hw]))
   go_ret
   exact ⟨ret_bool HF.out,HB.out⟩
 · cases ht : decide (1 <= tm /\ tm <= 5)
   · have HF : Hid (false = itemB nm tm bd):=qH (by unfold itemB;rw [ht,Bool.and_false];rfl)
     go_enter Tryz.func145,Tryz.ntmps145
     go_wp2_with (first | (go_at_call 146;refine (specWord_any _ _ HT.out).mono ?_;rintro e w1 ⟨rfl,rfl⟩;rw [hw]) | (go_at_call 42;refine (l02IsOk_any _ _ _ _).mono ?_;rintro e w1 ⟨rfl,rfl⟩;rw [ht]))
     go_ret
     exact ⟨ret_bool HF.out,HB.out⟩
   · have HF : Hid (decide (1 <= bd.size /\ bd.size <= 20) = itemB nm tm bd):=qH (by unfold itemB;rw [hw,ht];rfl)
     by_cases h1 : 1 <= bd.size
     · by_cases h2 : bd.size <= 20
       · go_enter Tryz.func145,Tryz.ntmps145
         go_wp2_with (first | (go_at_call 146;refine (specWord_any _ _ HT.out).mono ?_;rintro e w1 ⟨rfl,rfl⟩;rw [hw]) | (go_at_call 42;refine (l02IsOk_any _ _ _ _).mono ?_;rintro e w1 ⟨rfl,rfl⟩;rw [ht]))
         go_ret
         exact ⟨ret_bool (by rw [<- HF.out];simp [h1,h2];omega),HB.out⟩
       · go_enter Tryz.func145,Tryz.ntmps145
         go_wp2_with (first | (go_at_call 146;refine (specWord_any _ _ HT.out).mono ?_;rintro e w1 ⟨rfl,rfl⟩;rw [hw]) | (go_at_call 42;refine (l02IsOk_any _ _ _ _).mono ?_;rintro e w1 ⟨rfl,rfl⟩;rw [ht]))
         go_ret
         exact ⟨ret_bool (by rw [<- HF.out];simp [h1,h2];omega),HB.out⟩
     · go_enter Tryz.func145,Tryz.ntmps145
       go_wp2_with (first | (go_at_call 146;refine (specWord_any _ _ HT.out).mono ?_;rintro e w1 ⟨rfl,rfl⟩;rw [hw]) | (go_at_call 42;refine (l02IsOk_any _ _ _ _).mono ?_;rintro e w1 ⟨rfl,rfl⟩;rw [ht]))
       go_ret
       exact ⟨ret_bool (by rw [<- HF.out];simp [h1]),HB.out⟩
end Go.Proofs.YthkbcjnbmciolaaGreatDoor
