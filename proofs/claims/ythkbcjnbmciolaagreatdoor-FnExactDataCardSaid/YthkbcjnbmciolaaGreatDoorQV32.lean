/- Used by the law. -/
import Derived.Test.YthkbcjnbmciolaaGreatDoorQV30
set_option maxRecDepth 100000
set_option maxHeartbeats 16000000
namespace Go.Proofs.YthkbcjnbmciolaaGreatDoor
open Go.RowKit Go.PlainAid G
set_option linter.unusedVariables false
theorem implDiskRight_any (s t : ByteArray) (w : World) (h : s.size + t.size <= 9007199254740992) :
 Calls Tryz.prog 80 #[.agg #[.string s,.string t]] w fun e w' => e = .returned (.bool (decide (s.size + t.size <= 3000))) /\ Below w.heap.size w w':=by
 have HB : Hid (Below w.heap.size w (w.alloc (.cells #[.string s,.string t] 38))):=qH ((Below.refl _ _).alloc (Nat.le_refl _) _)
 have hw : IntKind.i64.wrap (3000 - (s.size : Int)) = 3000 - (s.size : Int):=by rw [IntWalk.i64_in _ (by omega)]
 by_cases h1 : s.size + t.size <= 3000
 · have h2 : (t.size : Int) <= 3000 - (s.size : Int):=by omega
   go_enter Tryz.func80,Tryz.ntmps80
   go_wp2_with fail
   go_ret
   exact ⟨ret_bool (by simp;try omega),HB.out⟩
 · have h2 : ¬ (t.size : Int) <= 3000 - (s.size : Int):=by omega
   go_enter Tryz.func80,Tryz.ntmps80
   go_wp2_with fail
   go_ret
   exact ⟨ret_bool (by simp;try omega),HB.out⟩
end Go.Proofs.YthkbcjnbmciolaaGreatDoor
namespace Go.Proofs.YthkbcjnbmciolaaGreatDoor
open Go.RowKit Go.PlainAid G MGF IRow
set_option linter.unusedVariables false
theorem okPart_iff (p : Int × ByteArray) : okPart p = (okX p.1 && secB p.2):=rfl
theorem okX_iff (z : Int) : okX z = true ↔ 1 <= z /\ z <= 255:=by unfold okX;exact decide_eq_true_iff
theorem not_allS {l : List (Int × ByteArray)} {j : Nat} (hj : j < l.length) (h : okPart (l.getD j shD) = false) : l.all okPart = false:=by
 rw [List.all_eq_false]
 refine ⟨l[j],List.getElem_mem _,?_⟩
 rw [getD_mem _ hj] at h
 rw [h]
 decide
theorem all_ofS {l : List (Int × ByteArray)} (h : ∀ t,t < l.length -> okPart (l.getD t shD) = true) : l.all okPart = true:=by
 rw [List.all_eq_true]
 intro p hp
 obtain ⟨j,hj,rfl⟩:=List.getElem_of_mem hp
 have:=h j hj
 rwa [getD_mem _ hj] at this
theorem partsB_at {l : List (Int × ByteArray)} (h : partsB l = true) : 1 <= l.length /\ l.length <= 20 /\ ∀ t,t < l.length -> 1 <= (l.getD t shD).1 /\ (l.getD t shD).1 <= 255 /\ 1 <= (l.getD t shD).2.size /\ (l.getD t shD).2.size <= 16:=by
 unfold partsB at h
 rw [Bool.and_eq_true] at h
 have h1:=of_decide_eq_true h.1
 refine ⟨h1.1,h1.2,fun t ht => ?_⟩
 have:=List.all_eq_true.1 h.2 _ (List.getElem_mem ht)
 rw [<- getD_mem shD ht,okPart_iff,Bool.and_eq_true] at this
 have a:=(okX_iff _).1 this.1
 have b:=secB_iff.1 this.2
 exact ⟨a.1,a.2,b.1,b.2⟩
theorem partsRight_any (a : Option Addr) (n cap : Nat) (l : List (Int × ByteArray)) (w : World) (h : HR w a n cap l) (hn : n <= 1048576) (hs : ∀ t,t < n -> (l.getD t shD).2.size <= maxLen) :
 Calls Tryz.prog 139 #[.slice a n cap] w fun e w' => e = .returned (.bool (partsB l)) /\ Below w.heap.size w w':=by
 have hl:=h.len
 have HS:=qH hs
 clear hs
 by_cases h20 : 20 < n ∨ n < 1
 · have HF : Hid (false = partsB l):=qH (by unfold partsB;rw [decide_eq_false (by omega),Bool.false_and])
   clear h
   by_cases h1 : n < 1
   · obtain rfl : n = 0:=by omega
     go_enter Tryz.func139,Tryz.ntmps139
     go_wp2_with fail
     go_ret
     exact ⟨ret_bool HF.out,Below.refl _ _⟩
   · have h2 : 20 < n:=by omega
     have hn1 : ¬ ((n : Int) < 1):=by omega
     go_enter Tryz.func139,Tryz.ntmps139
     go_wp2_with fail
     go_ret
     exact ⟨ret_bool HF.out,Below.refl _ _⟩
 · have h1 : ¬ 20 < n:=by omega
   have h2 : ¬ n < 1:=by omega
   go_enter Tryz.func139,Tryz.ntmps139
   go_wp2_with fail
   go_loopw [15] (fun i wr => ∃ j : Nat,j <= n /\ i = .int .i64 j /\ Hid (∀ t,t < j -> okPart (l.getD t shD) = true) /\ Below w.heap.size w wr) (fun i _ => n - (intOf i).toNat)
   case atStart => exact ⟨0,Nat.zero_le _,rfl,qH (fun t ht => absurd ht (by omega)),Below.refl _ _⟩
   case round =>
    obtain ⟨j,hj,rfl,HOK,hB⟩:=hrel
    by_cases hlt : j < n
    · obtain ⟨g,o,rfl,hg,hc1,hc2⟩:=h.at hlt
      have hck:=(hB.cell (p:=⟨g,o + j * 2,none⟩) hg).trans hc1
      have hck2:=(hB.cell (p:=⟨g,o + j * 2 + 1,none⟩) hg).trans hc2
      have hsj:=qH (HS.out j hlt)
      have HBD : Hid (okPart (l.getD j shD) = false -> false = partsB l):=qH (fun h2 => by unfold partsB;rw [not_allS (by omega) h2,Bool.and_false])
      have HNX : Hid (okPart (l.getD j shD) = true -> ∀ t,t < j + 1 -> okPart (l.getD t shD) = true):=qH (fun h2 t ht => by
       by_cases e : t = j
       · rw [e];exact h2
       · exact HOK.out t (by omega))
      generalize l.getD j shD = q at *
      obtain ⟨x,t⟩:=q
      dsimp only at HBD HNX hck hck2 hsj
      have hbx : Below wr.heap.size wr (wr.alloc (Obj.cells #[Value.int IntKind.i64 x,Value.string t] 194)):=(Below.refl _ _).alloc (Nat.le_refl _) _
      have HB:=qH (hB.trans (hbx.mono hB.size))
      clear hc1 hc2 hbx hB h
      by_cases hb : 0 <= x /\ x <= 255
      · have hbt : byteB x = true:=byteB_yes hb.1 hb.2
        by_cases h0 : x = 0
        · subst h0
          have HF:=qH (HBD.out (by rw [okPart_iff];rfl))
          go_wp2_with fail
          refine (isByte_any 0 _).mono ?_
          rintro e w1 ⟨rfl,rfl⟩
          rw [hbt]
          go_wp2_with fail
          go_ret
          exact ⟨ret_bool HF.out,HB.out⟩
        · have hvb : (x == 0) = false:=by rw [beq_eq_false_iff_ne];exact h0
          have hx : okX x = true:=(okX_iff x).2 ⟨by omega,hb.2⟩
          cases hsc : secB t
          · have HF:=qH (HBD.out (by rw [okPart_iff];dsimp only;rw [hx,hsc];rfl))
            clear hx h0 hb
            go_wp2_with fail
            refine (isByte_any x _).mono ?_
            rintro e w1 ⟨rfl,rfl⟩
            rw [hbt]
            go_wp2_with fail
            refine (secretRight_any t _ hsj.out).mono ?_
            rintro e w1 ⟨rfl,rfl⟩
            rw [hsc]
            go_wp2_with fail
            go_ret
            exact ⟨ret_bool HF.out,HB.out⟩
          · have HF:=qH (HNX.out (by rw [okPart_iff];dsimp only;rw [hx,hsc];rfl))
            clear hx h0 hb
            go_wp2_with fail
            refine (isByte_any x _).mono ?_
            rintro e w1 ⟨rfl,rfl⟩
            rw [hbt]
            go_wp2_with fail
            refine (secretRight_any t _ hsj.out).mono ?_
            rintro e w1 ⟨rfl,rfl⟩
            rw [hsc]
            go_wp2_with fail
            go_roundw
            case rel => exact ⟨j + 1,by omega,by go_num,HF,HB.out⟩
            case measure => simp [intOf];omega
      · have HF:=qH (HBD.out (by rw [okPart_iff];have : okX x = false:=(by unfold okX;exact decide_eq_false (by omega));dsimp only;rw [this];rfl))
        have hbt : byteB x = false:=byteB_no hb
        clear hb
        go_wp2_with fail
        refine (isByte_any x _).mono ?_
        rintro e w1 ⟨rfl,rfl⟩
        rw [hbt]
        go_wp2_with fail
        go_ret
        exact ⟨ret_bool HF.out,HB.out⟩
    · obtain rfl : j = n:=by omega
      have HF : Hid (true = partsB l):=qH (by
       unfold partsB
       rw [decide_eq_true (by omega),all_ofS (fun t ht => HOK.out t (by omega))]
       rfl)
      have HB:=qH hB
      clear hB h
      go_wp2_with fail
      go_ret
      exact ⟨ret_bool HF.out,HB.out⟩
theorem fst_take {l : List (Int × ByteArray)} {j : Nat} (h : j < l.length) : (l.take (j + 1)).map Prod.fst = (l.take j).map Prod.fst ++ [(l.getD j shD).1]:=by rw [take_getDS h,List.map_append];rfl
theorem nodup_snoc {xs : List Int} {x : Int} (h : xs.Nodup) (hx : ¬ x ∈ xs) : (xs ++ [x]).Nodup:=by
 rw [List.nodup_append]
 exact ⟨h,by simp,fun a ha b hb => by simp only [List.mem_singleton] at hb;subst hb;exact fun e => hx (e ▸ ha)⟩
theorem not_nodupS {l : List (Int × ByteArray)} {j : Nat} (hj : j < l.length) (hm : (l.getD j shD).1 ∈ (l.take j).map Prod.fst) : ¬ (l.map Prod.fst).Nodup:=by
 intro hn
 have e : l = l.take j ++ l.drop j:=(List.take_append_drop j l).symm
 rw [e,List.map_append,List.nodup_append] at hn
 refine hn.2.2 _ hm (l.getD j shD).1 ?_ rfl
 rw [getD_mem _ hj]
 refine List.mem_map.2 ⟨l[j],?_,rfl⟩
 rw [List.drop_eq_getElem_cons hj]
 exact List.mem_cons_self
theorem sharePlace_any (a : Option Addr) (n cap : Nat) (l : List (Int × ByteArray)) (w : World) (h : HR w a n cap l) (hn : n <= 1048576) (hx : ∀ t,t < n -> 1 <= (l.getD t shD).1 /\ (l.getD t shD).1 <= 255) :
 Calls Tryz.prog 140 #[.slice a n cap] w fun e w' => e = .returned (.bool (!placeB l)) /\ Below w.heap.size w w':=by
 have hl:=h.len
 have HX:=qH hx
 clear hx
 go_enter Tryz.func140,Tryz.ntmps140
 go_wp2_with fail
 go_loopw [8] (fun i wr => ∃ j : Nat,j <= n /\ i = .int .i64 j /\ Hid (((l.take j).map Prod.fst).Nodup) /\ Seen wr w.heap.size (fun v => decide ((v : Int) ∈ (l.take j).map Prod.fst)) /\ Below w.heap.size w wr) (fun i _ => n - (intOf i).toNat)
 case atStart => exact ⟨0,Nat.zero_le _,rfl,qH (by simp),by simpa using seen_new w,(Below.refl _ _).alloc (Nat.le_refl _) _⟩
 case round =>
  obtain ⟨j,hj,rfl,HND,hS,hB⟩:=hrel
  by_cases hlt : j < n
  · obtain ⟨g,o,rfl,hg,hc1,hc2⟩:=h.at hlt
    have hck:=(hB.cell (p:=⟨g,o + j * 2,none⟩) hg).trans hc1
    have hck2:=(hB.cell (p:=⟨g,o + j * 2 + 1,none⟩) hg).trans hc2
    have hxj:=HX.out j hlt
    have HDP : Hid ((l.getD j shD).1 ∈ (l.take j).map Prod.fst -> true = !placeB l):=qH (fun h2 => by
     unfold placeB
     rw [decide_eq_false (not_nodupS (by omega) h2)]
     rfl)
    have HTK : Hid ((l.take (j + 1)).map Prod.fst = (l.take j).map Prod.fst ++ [(l.getD j shD).1]):=qH (fst_take (by omega))
    generalize l.getD j shD = q at *
    obtain ⟨z,t⟩:=q
    dsimp only at HDP HTK hck hck2 hxj
    have hbx : Below wr.heap.size wr (wr.alloc (Obj.cells #[Value.int IntKind.i64 z,Value.string t] 194)):=(Below.refl _ _).alloc (Nat.le_refl _) _
    replace hS:=hS.below hbx
    replace hB:=hB.trans (hbx.mono hB.size)
    clear hc1 hc2 h hbx
    obtain ⟨v,rfl⟩:=Int.eq_ofNat_of_zero_le (show 0 <= z by omega)
    have hv : v < 256:=by omega
    obtain ⟨hcs,hfs⟩:=hS.2 v hv
    dsimp only at hcs
    by_cases hsn : (v : Int) ∈ (l.take j).map Prod.fst
    · rw [decide_eq_true hsn] at hcs
      have HF:=qH (HDP.out hsn)
      clear hS hsn hxj
      go_wp2_with fail
      go_ret
      exact ⟨ret_bool HF.out,hB⟩
    · rw [decide_eq_false hsn] at hcs
      have HF : Hid (((l.take (j + 1)).map Prod.fst).Nodup):=qH (by rw [HTK.out];exact nodup_snoc HND.out hsn)
      have HSS:=qH (hS.set hv (fun u => decide ((u : Int) ∈ (l.take (j + 1)).map Prod.fst)) (fun u hu => by
       rw [HTK.out]
       by_cases e : u = v
       · subst e
         rw [if_pos rfl]
         exact decide_eq_true (by simp)
       · rw [if_neg e]
         have : ((u : Int) ∈ (l.take j).map Prod.fst ++ [(v : Int)]) ↔ (u : Int) ∈ (l.take j).map Prod.fst:=by
          rw [List.mem_append,List.mem_singleton]
          exact ⟨fun h => h.elim id (fun h => absurd (Int.ofNat.inj h) e),Or.inl⟩
         simp only [this]))
      have HBB:=qH (hB.setCell (p:=⟨w.heap.size,v,none⟩) (Nat.le_refl _) (.bool true))
      clear hS hsn hB hxj
      go_wp2_with fail
      go_roundw
      case rel => exact ⟨j + 1,by omega,by go_num,HF,HSS.out,HBB.out⟩
      case measure => simp [intOf];omega
  · obtain rfl : j = n:=by omega
    have HF : Hid (false = !placeB l):=qH (by
     have h1:=HND.out
     rw [List.take_of_length_le (by omega)] at h1
     unfold placeB
     rw [decide_eq_true h1]
     rfl)
    have HB:=qH hB
    clear hS h hB
    go_wp2_with fail
    go_ret
    exact ⟨ret_bool HF.out,HB.out⟩
theorem oneSize_any (a : Option Addr) (n cap : Nat) (l : List (Int × ByteArray)) (w : World) (h : HR w a n cap l) (hn : n <= 1048576) (hs : ∀ t,t < n -> (l.getD t shD).2.size <= maxLen) :
 Calls Tryz.prog 141 #[.slice a n cap] w fun e w' => e = .returned (.bool (sizeB l)) /\ Below w.heap.size w w':=by
 have hl:=h.len
 have HS:=qH hs
 clear hs
 go_enter Tryz.func141,Tryz.ntmps141
 go_wp2_with fail
 go_loopw [7] (fun i wr => ∃ j : Nat,j <= n /\ i = .int .i64 j /\ Hid (∀ t,t < j -> (l.getD t shD).2.size = (l.getD 0 shD).2.size) /\ Below w.heap.size w wr) (fun i _ => n - (intOf i).toNat)
 case atStart => exact ⟨0,Nat.zero_le _,rfl,qH (fun t ht => absurd ht (by omega)),Below.refl _ _⟩
 case round =>
  obtain ⟨j,hj,rfl,HOK,hB⟩:=hrel
  by_cases hlt : j < n
  · obtain ⟨g,o,rfl,hg,hc1,hc2⟩:=h.at hlt
    obtain ⟨g',o',ha',hg',hd1,hd2⟩:=h.at (show 0 < n by omega)
    simp only [Option.some.injEq,Addr.mk.injEq,and_true] at ha'
    obtain ⟨rfl,rfl⟩:=ha'
    have hck:=(hB.cell (p:=⟨g,o + j * 2,none⟩) hg).trans hc1
    have hck2:=(hB.cell (p:=⟨g,o + j * 2 + 1,none⟩) hg).trans hc2
    rw [Nat.zero_mul,Nat.add_zero] at hd2
    have hs0:=HS.out 0 (by omega)
    have hsj:=HS.out j hlt
    unfold maxLen at hs0 hsj
    have HBD : Hid ((l.getD j shD).2.size ≠ (l.getD 0 shD).2.size -> false = sizeB l):=qH (fun h2 => by
     unfold sizeB
     symm
     rw [List.all_eq_false]
     refine ⟨l[j]'(by omega),List.getElem_mem _,?_⟩
     rw [<- getD_mem shD (by omega)]
     rw [decide_eq_false (show ¬ (l.getD j shD).2.size = (l.getD 0 (0,ByteArray.empty)).2.size from h2)]
     decide)
    have HNX : Hid ((l.getD j shD).2.size = (l.getD 0 shD).2.size -> ∀ t,t < j + 1 -> (l.getD t shD).2.size = (l.getD 0 shD).2.size):=qH (fun h2 t ht => by
     by_cases e : t = j
     · rw [e];exact h2
     · exact HOK.out t (by omega))
    have hbx : Below wr.heap.size wr (wr.alloc (Obj.cells #[Value.int IntKind.i64 (l.getD j shD).1,Value.string (l.getD j shD).2] 194)):=(Below.refl _ _).alloc (Nat.le_refl _) _
    have hb2:=hB.trans (hbx.mono hB.size)
    have hdd:=(hb2.cell (p:=⟨g,o + 1,none⟩) hg).trans hd2
    have hee : (wr.alloc (Obj.cells #[Value.int IntKind.i64 (l.getD j shD).1,Value.string (l.getD j shD).2] 194)).cell? ⟨wr.heap.size,1,none⟩ = some (.string (l.getD j shD).2):=World.cell?_alloc_new wr _ _ 1
    have HB:=qH hb2
    generalize (l.getD j shD).1 = x at *
    generalize (l.getD j shD).2 = t at *
    generalize (l.getD 0 shD).2 = t0 at *
    clear hc1 hc2 hd1 hd2 hB hbx hb2 h
    go_wp2_with fail
    generalize wr.alloc (Obj.cells #[Value.int IntKind.i64 x,Value.string t] 194) = wa at *
    clear hck hck2
    go_quiet (fail)
    clear hdd hee
    by_cases hz : t.size = t0.size
    · have HF:=qH (HNX.out hz)
      rw [hz]
      clear hz
      go_wp2_with fail
      go_roundw
      case rel => exact ⟨j + 1,by omega,by go_num,HF,below_drewN HB.out _⟩
      case measure => simp [intOf];omega
    · have HF:=qH (HBD.out hz)
      go_wp2_with fail
      go_ret
      exact ⟨ret_bool HF.out,below_drewN HB.out _⟩
  · obtain rfl : j = n:=by omega
    have HF : Hid (true = sizeB l):=qH (by
     unfold sizeB
     symm
     rw [List.all_eq_true]
     intro p hp
     obtain ⟨i,hi,rfl⟩:=List.getElem_of_mem hp
     rw [<- getD_mem shD hi]
     exact decide_eq_true (HOK.out i (by omega)))
    have HB:=qH hB
    clear hB h
    go_wp2_with fail
    go_ret
    exact ⟨ret_bool HF.out,HB.out⟩
theorem partsCode_size {l : List (Int × ByteArray)} (h : 400 < l.length) : partsCode l = 2:=by unfold partsCode;rw [if_pos h]
theorem partsCode_form {l : List (Int × ByteArray)} (h : ¬ 400 < l.length) (k : partsB l = false) : partsCode l = 1:=by unfold partsCode;rw [if_neg h,if_pos k]
theorem partsCode_there {l : List (Int × ByteArray)} (h : ¬ 400 < l.length) (k : partsB l = true) (m : placeB l = false) : partsCode l = 7:=by unfold partsCode;rw [if_neg h,k,if_neg (by decide),if_pos m]
theorem partsCode_state {l : List (Int × ByteArray)} (h : ¬ 400 < l.length) (k : partsB l = true) (m : placeB l = true) (s : sizeB l = false) : partsCode l = 10:=by unfold partsCode;rw [if_neg h,k,if_neg (by decide),m,if_neg (by decide),if_pos s]
theorem partsCode_ok {l : List (Int × ByteArray)} (h : ¬ 400 < l.length) (k : partsB l = true) (m : placeB l = true) (s : sizeB l = true) : partsCode l = 0:=by unfold partsCode;rw [if_neg h,k,if_neg (by decide),m,if_neg (by decide),s,if_neg (by decide)]
theorem partsCode_zero {l : List (Int × ByteArray)} (h : partsCode l = 0) : partsB l = true /\ placeB l = true /\ sizeB l = true:=by
 by_cases h1 : 400 < l.length
 · rw [partsCode_size h1] at h;exact absurd h (by decide)
 · cases h2 : partsB l
   · rw [partsCode_form h1 h2] at h;exact absurd h (by decide)
   · cases h3 : placeB l
     · rw [partsCode_there h1 h2 h3] at h;exact absurd h (by decide)
     · cases h4 : sizeB l
       · rw [partsCode_state h1 h2 h3 h4] at h;exact absurd h (by decide)
       · exact ⟨rfl,rfl,rfl⟩
theorem partsFault_any (a : Option Addr) (n cap : Nat) (l : List (Int × ByteArray)) (w : World) (h : HR w a n cap l) (hn : n <= 1048576) (hs : ∀ t,t < n -> (l.getD t shD).2.size <= maxLen) :
 Calls Tryz.prog 103 #[.slice a n cap] w fun e w' => e = .returned (.int .i64 (partsCode l)) /\ Below w.heap.size w w':=by
 have hl:=h.len
 have H:=qH h
 have HS:=qH hs
 clear h hs
 by_cases h1 : 400 < n
 · have HF:=qH (partsCode_size (l:=l) (by omega)).symm
   go_enter Tryz.func103,Tryz.ntmps103
   go_wp2_with fail
   go_ret
   exact ⟨ret_int HF.out,Below.refl _ _⟩
 · have h1l : ¬ 400 < l.length:=by omega
   cases hp : partsB l
   · have HF:=qH (partsCode_form h1l hp).symm
     clear h1l
     go_enter Tryz.func103,Tryz.ntmps103
     go_wp2_with fail
     refine (partsRight_any a n cap l _ H.out hn HS.out).mono ?_
     rintro e w1 ⟨rfl,hb1⟩
     rw [hp]
     have HB1:=qH hb1
     clear hb1
     go_wp2_with fail
     go_ret
     exact ⟨ret_int HF.out,HB1.out⟩
   · have hpa:=partsB_at hp
     have HX : Hid (∀ t,t < n -> 1 <= (l.getD t shD).1 /\ (l.getD t shD).1 <= 255):=qH (fun t ht => by have:=hpa.2.2 t (by omega);exact ⟨this.1,this.2.1⟩)
     clear hpa
     cases hq : placeB l
     · have HF:=qH (partsCode_there h1l hp hq).symm
       clear h1l
       go_enter Tryz.func103,Tryz.ntmps103
       go_wp2_with fail
       refine (partsRight_any a n cap l _ H.out hn HS.out).mono ?_
       rintro e w1 ⟨rfl,hb1⟩
       rw [hp]
       have H1:=qH (H.out.below hb1)
       have HB1:=qH hb1
       clear hb1
       go_wp2_with fail
       refine (sharePlace_any a n cap l _ H1.out hn HX.out).mono ?_
       rintro e w2 ⟨rfl,hb2⟩
       rw [hq]
       have HB2:=qH (HB1.out.trans (hb2.mono HB1.out.size))
       clear hb2
       go_wp2_with fail
       go_ret
       exact ⟨ret_int HF.out,HB2.out⟩
     · cases hr : sizeB l
       all_goals
        obtain ⟨c,HF⟩ : ∃ c,Hid (c = partsCode l):=⟨_,qH rfl⟩
        have HC:=HF.out
        first | rw [partsCode_state h1l hp hq hr] at HC | rw [partsCode_ok h1l hp hq hr] at HC
        subst HC
        clear h1l
        go_enter Tryz.func103,Tryz.ntmps103
        go_wp2_with fail
        refine (partsRight_any a n cap l _ H.out hn HS.out).mono ?_
        rintro e w1 ⟨rfl,hb1⟩
        rw [hp]
        have H1:=qH (H.out.below hb1)
        have HB1:=qH hb1
        clear hb1
        go_wp2_with fail
        refine (sharePlace_any a n cap l _ H1.out hn HX.out).mono ?_
        rintro e w2 ⟨rfl,hb2⟩
        rw [hq]
        have H2:=qH (H1.out.below hb2)
        have HB2:=qH (HB1.out.trans (hb2.mono HB1.out.size))
        clear hb2
        go_wp2_with fail
        refine (oneSize_any a n cap l _ H2.out hn HS.out).mono ?_
        rintro e w3 ⟨rfl,hb3⟩
        rw [hr]
        have HB3:=qH (HB2.out.trans (hb3.mono HB2.out.size))
        clear hb3
        go_wp2_with fail
        go_ret
        exact ⟨ret_int HF.out,HB3.out⟩
end Go.Proofs.YthkbcjnbmciolaaGreatDoor
namespace Go.Proofs.YthkbcjnbmciolaaGreatDoor
open Go.RowKit Go.PlainAid G MGF IRow MNum MJoin
set_option linter.unusedVariables false
def shOf (e : Ev) : Int × ByteArray:=(e.x,e.t)
def okE (g n m : Int) (e : Ev) : Bool:=envB e.g e.n e.m e.x e.t && decide (e.g = g /\ e.n = n /\ e.m = m)
def fitB (g n m : Int) (l : List Ev) : Bool:=decide (l.length = 0) || (decide ((l.length : Int) < n) && (l.all (okE g n m) && decide (partsCode (l.map shOf) = 0)))
theorem fitB_long {g n m : Int} {l : List Ev} (h0 : ¬ l.length = 0) (h : ¬ (l.length : Int) < n) : fitB g n m l = false:=by
 unfold fitB
 rw [decide_eq_false h0,decide_eq_false h]
 rfl
theorem all_no {g n m : Int} {l : List Ev} {j : Nat} (hj : j < l.length) (h : okE g n m (l.getD j evD) = false) : l.all (okE g n m) = false:=by
 rw [List.all_eq_false]
 refine ⟨l.getD j evD,?_,by rw [h];decide⟩
 rw [show l.getD j evD = l[j] by simp [List.getD,List.getElem?_eq_getElem hj]]
 exact List.getElem_mem hj
theorem fitB_bad {g n m : Int} {l : List Ev} {j : Nat} (hj : j < l.length) (h : okE g n m (l.getD j evD) = false) : fitB g n m l = false:=by
 unfold fitB
 rw [decide_eq_false (by omega),all_no hj h]
 simp
theorem all_yes {g n m : Int} {l : List Ev} (h : ∀ t,t < l.length -> okE g n m (l.getD t evD) = true) : l.all (okE g n m) = true:=by
 rw [List.all_eq_true]
 intro e he
 obtain ⟨i,hi,rfl⟩:=List.mem_iff_getElem.1 he
 have:=h i hi
 rwa [show l.getD i evD = l[i] by simp [List.getD,List.getElem?_eq_getElem hi]] at this
theorem fitB_all {g n m : Int} {l : List Ev} (h0 : ¬ l.length = 0) (h1 : (l.length : Int) < n) (h : ∀ t,t < l.length -> okE g n m (l.getD t evD) = true) : fitB g n m l = decide (partsCode (l.map shOf) = 0):=by
 unfold fitB
 rw [decide_eq_false h0,decide_eq_true h1,all_yes h]
 simp
theorem okE_env {g n m eg en em ex : Int} {et : ByteArray} (h : envB eg en em ex et = false) : okE g n m ⟨eg,en,em,ex,et⟩ = false:=by
 unfold okE
 dsimp only
 rw [h,Bool.false_and]
theorem okE_num {g n m eg en em ex : Int} {et : ByteArray} (h : ¬ (eg = g /\ en = n /\ em = m)) : okE g n m ⟨eg,en,em,ex,et⟩ = false:=by
 unfold okE
 dsimp only
 rw [decide_eq_false h,Bool.and_false]
theorem okE_yes {g n m ex : Int} {et : ByteArray} (h : envB g n m ex et = true) : okE g n m ⟨g,n,m,ex,et⟩ = true:=by
 unfold okE
 dsimp only
 rw [h,decide_eq_true ⟨rfl,rfl,rfl⟩]
 rfl
theorem map_shTake {l : List Ev} {j : Nat} (h : j < l.length) : (l.take (j + 1)).map shOf = (l.take j).map shOf ++ [((l.getD j evD).x,(l.getD j evD).t)]:=by
 rw [show l.take (j + 1) = l.take j ++ [l[j]] from (List.take_append_getElem h).symm,List.map_append]
 rw [show l.getD j evD = l[j] by simp [List.getD,List.getElem?_eq_getElem h]]
 rfl
end Go.Proofs.YthkbcjnbmciolaaGreatDoor
