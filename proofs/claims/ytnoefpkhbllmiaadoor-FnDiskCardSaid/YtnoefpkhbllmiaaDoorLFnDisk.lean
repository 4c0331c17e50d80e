/- PROVED: the statement 'FnDiskSaid': at every argument the law's function answers true and leaves its arguments as they were. The frame was written by the kit's own frame writer. -/
import Derived.Test.YtnoefpkhbllmiaaDoorDskJ
import Derived.Test.YtnoefpkhbllmiaaDoorDrawDk
import Derived.Test.YtnoefpkhbllmiaaDoorTillZ
import Derived.Deep.RegionHeld3
import Derived.Deep.Cut
import Derived.StillTailTactics
import Derived.Test.YtnoefpkhbllmiaaDoorDoorD
import Derived.SevenTiedAt
import Derived.WalkKit
import Derived.ProofKit
import Derived.OpenShut
import Derived.ShutString
import Derived.ChangeOld
import Derived.Below
import Derived.Carry
namespace Go.Proofs.YtnoefpkhbllmiaaDoor.fnDisk
open Go.ChangeShapes Go.WideShapes Go.ChangeAt Go.RowKit
open Go.ChangeMaps (open_string shut_string)
set_option linter.unusedVariables false
theorem laidOut : laidOutB Tryd.prog = true := by kernel_rfl
def IsRow (k : IntKind) (w : World) (a : Option Addr) (len cap : Nat) (zs : List Int) : Prop :=
  (a = none ∧ len = 0 ∧ cap = 0 ∧ zs = []) ∨
  ∃ x, a = some x ∧ len ≤ cap ∧ cap ≤ maxLen ∧ zs.length = cap ∧ (∀ i, i < zs.length → w.cell? (x.add i) = some (.int k (zs.getD i 0))) ∧ ∀ n ∈ zs, (Lit.int k n).wf = true
open Go.RowKit Go.PlainAid G
structure BX (w : World) (h : Nat) (cs : List Value) : Prop where
  lt : h < w.heap.size
  cell : ∀ j v, cs[j]? = some v → w.cell? ⟨h, j, none⟩ = some v
  free : ∀ j, w.frozen? ⟨h, j, none⟩ = false
theorem BX.made (w : World) (cs : Array Value) (e : TypeId) : BX (w.alloc (.cells cs e)) w.heap.size cs.toList := by
  have hh : (w.alloc (.cells cs e)).heap[w.heap.size]? = some (.cells cs e (0, 0)) := by show (w.heap.push _)[w.heap.size]? = _; simp
  refine ⟨by rw [World.size_alloc]; omega, fun j v hv => ?_, fun j => ?_⟩
  · rw [cell_of_row _ _ j _ _ _ hh]
    simpa using hv
  · unfold World.frozen?
    simp only [hh]
    simp
theorem BX.below {w w' : World} {h : Nat} {cs : List Value} (b : BX w h cs) (hb : Below w.heap.size w w') : BX w' h cs :=
  ⟨Nat.lt_of_lt_of_le b.lt hb.size, fun j v hv => (hb.cell (p := ⟨h, j, none⟩) b.lt).trans (b.cell j v hv), fun j => (hb.frozen (p := ⟨h, j, none⟩) b.lt).trans (b.free j)⟩
theorem BX.alloc {w : World} {h : Nat} {cs : List Value} (b : BX w h cs) (o : Obj) : BX (w.alloc o) h cs := b.below ((Below.refl _ _).alloc (Nat.le_refl _) _)
theorem BX.drew {w : World} {h : Nat} {cs : List Value} (b : BX w h cs) : BX w.drew h cs := ⟨b.lt, b.cell, b.free⟩
theorem BX.set {w : World} {h : Nat} {cs : List Value} (b : BX w h cs) {j : Nat} (hj : j < cs.length) (u : Value) : BX (w.setCell ⟨h, j, none⟩ u) h (cs.set j u) := by
  refine ⟨by rw [World.size_setCell]; exact b.lt, fun i v hv => ?_, fun i => by rw [World.frozen?_setCell]; exact b.free i⟩
  by_cases hij : j = i
  · subst hij
    rw [List.getElem?_set_self hj] at hv
    cases hv
    exact World.cell?_setCell_same _ _ _ (b.cell j _ (List.getElem?_eq_getElem hj))
  · rw [List.getElem?_set_ne hij] at hv
    rw [World.cell?_setCell_other _ _ _ _ (by intro h2; simp_all)]
    exact b.cell i v hv
theorem BX.other {w : World} {h : Nat} {cs : List Value} (b : BX w h cs) (p : Addr) (u : Value) (hp : p.block ≠ h) : BX (w.setCell p u) h cs := by
  refine ⟨by rw [World.size_setCell]; exact b.lt, fun i v hv => ?_, fun i => by rw [World.frozen?_setCell]; exact b.free i⟩
  rw [World.cell?_setCell_other _ _ _ _ (by intro h2; apply hp; rw [h2])]
  exact b.cell i v hv
theorem BX.grown {w w' : World} {h : Nat} {cs : List Value} {row : Option Nat} (b : BX w h cs) (hg : w.grownBy w' row) (hr : some h ≠ row) : BX w' h cs := by
  have hblk := hg.block h b.lt hr
  refine ⟨Nat.lt_of_lt_of_le b.lt hg.size, fun j v hv => (World.cell?_of_block (a := ⟨h, j, none⟩) hblk).trans (b.cell j v hv), fun j => ?_⟩
  have := b.free j
  unfold World.frozen? at this ⊢
  dsimp only at this ⊢
  rw [hblk]
  exact this
theorem three {P : Program} {ops : Array Oper} {md : Region.Mode} {S : World → Prop} {Q : Exit → Act → World → Prop} {i j m t : Nat} {k : Nat} {listed : Array Bool} {a : Act} {w : World} (hr : Region.ready md ops listed = [i, j, m])
    (h1 : TillZ.opZ P ops i (fun a' w' => (i = t → wpAny P md ops Q k (listed.setIfInBounds i true) a' w') ∧ (i ≠ t → S w' ∧ TillZ.wpZ P md ops S t Q k (listed.setIfInBounds i true) a' w')) a w)
    (h2 : TillZ.opZ P ops j (fun a' w' => (j = t → wpAny P md ops Q k (listed.setIfInBounds j true) a' w') ∧ (j ≠ t → S w' ∧ TillZ.wpZ P md ops S t Q k (listed.setIfInBounds j true) a' w')) a w)
    (h3 : TillZ.opZ P ops m (fun a' w' => (m = t → wpAny P md ops Q k (listed.setIfInBounds m true) a' w') ∧ (m ≠ t → S w' ∧ TillZ.wpZ P md ops S t Q k (listed.setIfInBounds m true) a' w')) a w)
    : TillZ.wpZ P md ops S t Q (k + 1) listed a w := by
  refine ⟨fun h0 => (by rw [hr] at h0; cases h0), fun q hq => ?_⟩
  rw [hr] at hq
  rcases List.mem_cons.1 hq with rfl | hq
  · exact h1
  · rcases List.mem_cons.1 hq with rfl | hq
    · exact h2
    · obtain rfl : q = m := by simpa using hq
      exact h3
theorem field_disk (W : World) (a b : Value) : (Instr.field 24 (.agg #[a, b]) 0).run Tryd.prog W = .ok a W := by kernel_rfl
theorem dkAppend_zero {s t b xs xt : ByteArray} (h : dkAppend s t b = (xs, xt, 0)) : xs = s ∧ xt = t ++ b := by
  unfold dkAppend at h
  split at h
  · injection h with h1 h2; injection h2 with h3 h4; exact absurd h4 (by decide)
  · split at h
    · injection h with h1 h2; injection h2 with h3 h4; exact absurd h4 (by decide)
    · split at h
      · injection h with h1 h2; injection h2 with h3 h4; exact absurd h4 (by decide)
      · injection h with h1 h2; injection h2 with h3 h4; exact ⟨h1.symm, h3.symm⟩
theorem ext_append (e t : ByteArray) (k : Nat) (hk : k ≤ t.size) : (e ++ t).extract 0 (e.size + k) = e ++ t.extract 0 k := by
  apply ByteArray.ext
  apply Array.toList_inj.1
  rw [Lib.extract_data, ByteArray.data_append, ByteArray.data_append, Array.toList_append, Array.toList_append, Lib.extract_data]
  simp only [List.drop_zero, Nat.sub_zero]
  rw [List.take_append]
  congr 1
  · exact List.take_of_length_le (by simp)
  · congr 1
    simp
/-- What a crash leaves of a right disk, and what it leaves behind a sync. -/
theorem crash_facts {es et cs ct ss st : ByteArray} {k : Int} (hr : es.size + et.size ≤ 3000) (h1 : dkCrash es et k = (cs, ct)) (h2 : dkSync es et = (ss, st)) :
    ct = ⟨#[]⟩ ∧ st = ⟨#[]⟩ ∧ ss = es ++ et ∧ es.size ≤ cs.size ∧ cs.size ≤ es.size + et.size ∧ (es ++ et).extract 0 cs.size = cs ∧ dkCrash (es ++ et) ⟨#[]⟩ 0 = (es ++ et, ⟨#[]⟩) := by
  rw [dkCrash_yes hr] at h1
  rw [dkSync_yes hr] at h2
  injection h1 with a1 a2
  injection h2 with b1 b2
  have hk : dkKeep et k ≤ et.size := by unfold dkKeep; omega
  have hsz : cs.size = es.size + dkKeep et k := by rw [← a1, ByteArray.size_append, ByteArray.size_extract]; omega
  refine ⟨a2.symm, b2.symm, b1.symm, by omega, by omega, by rw [hsz, ext_append _ _ _ hk]; exact a1, ?_⟩
  have h0 : dkKeep ⟨#[]⟩ 0 = 0 := rfl
  rw [dkCrash_yes (by rw [ByteArray.size_append]; show es.size + et.size + 0 ≤ 3000; omega), h0]
  have h3 : ((⟨#[]⟩ : ByteArray).extract 0 0) = ⟨#[]⟩ := rfl
  rw [h3, show es ++ et ++ (⟨#[]⟩ : ByteArray) = es ++ et from ByteArray.append_empty]
theorem code_of {w : World} {a : Option Addr} {len cap : Nat} {zs : List Int} (h : IsRow .u8 w a len cap zs) : CodeAt w a len := by
  rcases h with ⟨rfl, rfl, rfl, rfl⟩ | ⟨x, rfl, hl, hm, hz, hc, hw⟩
  · exact ⟨0, 0, fun h => absurd h (by omega), fun i hi => absurd hi (by omega)⟩
  · by_cases h0 : 0 < len
    · obtain ⟨b, o, sp⟩ := x
      have h1 := hc 0 (by omega)
      have hsp : sp = none := by simpa [Addr.add] using World.cell?_spot h1
      subst hsp
      refine ⟨b, o, fun _ => rfl, fun i hi => ?_⟩
      have h2 := hc i (by omega)
      have hb := bounds_u8 (hw (zs.getD i 0) (by rw [List.getD_eq_getElem?_getD, List.getElem?_eq_getElem (show i < zs.length by omega)]; exact List.getElem_mem _))
      have e1 : (⟨b, o, none⟩ : Addr).add i = ⟨b, o + i, none⟩ := by unfold Addr.add; split <;> simp_all
      exact ⟨_, hb.1, hb.2, by rw [← e1]; exact h2⟩
    · exact ⟨0, 0, fun h => absurd h h0, fun i hi => absurd hi (by omega)⟩

/-! ### The walk. -/
set_option maxRecDepth 100000 in
set_option maxHeartbeats 4000000 in
theorem walk (a0 : Option Addr) (len0 cap0 : Nat) (z0 : List Int) (a1 : Option Addr) (len1 cap1 : Nat) (z1 : List Int) (w : World) (w0 : IsRow .u8 w a0 len0 cap0 z0) (w1 : IsRow .u8 w a1 len1 cap1 z1) (e0 e1 e2 : Addr) (hd : DS w e0 e1 e2) :
    Calls Tryd.prog 3 #[.slice a0 len0 cap0, .slice a1 len1 cap1] w fun e w' => e = .returned (.bool true) ∧ Below w.heap.size w w' := by
  have hf2 := field_disk
  have hc0 := code_of w0
  have hc1 := code_of w1
  clear w0 w1
  by_cases h0 : 1048576 < len0
  · go_enter Tryd.func3, Tryd.ntmps3
    go_wp2
    go_ret
    exact ⟨rfl, Below.refl _ _⟩
  by_cases h1 : 1048576 < len1
  · go_enter Tryd.func3, Tryd.ntmps3
    go_wp2
    go_ret
    exact ⟨rfl, Below.refl _ _⟩
  have hl0 : len0 ≤ 1048576 := by omega
  have hl1 : len1 ≤ 1048576 := by omega
  have HC1 := Lib.hid hc1
  have HDS := Lib.hid hd
  clear hc1 hd
  go_enter Tryd.func3, Tryd.ntmps3
  go_wp2_with fail
  refine (drawAppend_any a0 len0 cap0 w hc0 hl0).mono ?_
  rintro e v1 ⟨s, t, b, rfl, hs, ht, hb, hb1⟩
  have HB1 := Lib.hid hb1
  have HSZ := Lib.hid (show s.size + t.size ≤ 1048576 ∧ b.size ≤ 1048576 by omega)
  clear hb1 hc0 hb
  unfold dkV
  dsimp only
  go_wp2_with fail

  obtain ⟨V1, hV1⟩ : ∃ V1, V1 = v1.alloc (.cells #[.string s, .string t] 24) := ⟨_, rfl⟩
  have bV1 : Below v1.heap.size v1 V1 := by rw [hV1]; exact (Below.refl _ _).alloc (Nat.le_refl _) _
  have HD1 := Lib.hid (show BX V1 v1.heap.size [.string s, .string t] by rw [hV1]; exact BX.made _ _ _)
  have HBV1 := Lib.hid (HB1.out.trans (bV1.mono HB1.out.size))
  rw [← hV1]
  clear hV1 bV1
  obtain ⟨xs, xt, xc, hA⟩ : ∃ xs xt xc, dkAppend s t b = (xs, xt, xc) := ⟨_, _, _, rfl⟩
  have HA := Lib.hid hA
  clear hA
  refine (implAppend_any s t b e0 e1 e2 _ (HDS.out.below HBV1.out) HSZ.out.1 HSZ.out.2).mono ?_
  rintro e v2 ⟨rfl, hb⟩
  rw [HA.out]
  unfold dkOutV
  dsimp only
  have HB2 := Lib.hid (HBV1.out.trans (hb.mono HBV1.out.size))
  have HD2 := Lib.hid (HD1.out.below hb)
  clear hb HD1 HBV1
  obtain ⟨V2, hV2⟩ : ∃ V2, V2 = v2.alloc (.cells #[.string xs, .string xt, .int .i64 xc] 28) := ⟨_, rfl⟩
  have bV2 : Below v2.heap.size v2 V2 := by rw [hV2]; exact (Below.refl _ _).alloc (Nat.le_refl _) _
  have HX1 := Lib.hid (show BX V2 v2.heap.size [.string xs, .string xt, .int .i64 xc] by rw [hV2]; exact BX.made _ _ _)
  have HBV2 := Lib.hid (HB2.out.trans (bV2.mono HB2.out.size))
  have HD3 := Lib.hid (HD2.out.below bV2)
  clear bV2 HD2
  go_wp2_with fail
  rw [← hV2]
  clear hV2
  refine (drawCrash_any a1 len1 cap1 _ (HC1.out.below HBV2.out) hl1).mono ?_
  rintro e v3 ⟨es, et, k, rfl, hes, het, hb⟩
  unfold dkV
  dsimp only
  have HSE := Lib.hid (show es.size + et.size ≤ 1048576 by omega)
  have HB3 := Lib.hid (HBV2.out.trans (hb.mono HBV2.out.size))
  have HD4 := Lib.hid (HD3.out.below hb)
  have HX4 := Lib.hid (HX1.out.below hb)
  clear hb HD3 HX1 HBV2 hs ht hes het
  obtain ⟨V3, hV3⟩ : ∃ V3, V3 = v3.alloc (.cells #[.string es, .string et] 24) := ⟨_, rfl⟩
  have bV3 : Below v3.heap.size v3 V3 := by rw [hV3]; exact (Below.refl _ _).alloc (Nat.le_refl _) _
  have HE1 := Lib.hid (show BX V3 v3.heap.size [.string es, .string et] by rw [hV3]; exact BX.made _ _ _)
  have HBV3 := Lib.hid (HB3.out.trans (bV3.mono HB3.out.size))
  have HD5 := Lib.hid (HD4.out.below bV3)
  have HX5 := Lib.hid (HX4.out.below bV3)
  clear bV3 HD4 HX4
  go_wp2_with fail
  rw [← hV3]
  clear hV3
  obtain ⟨cs, ct, hc⟩ : ∃ cs ct, dkCrash es et k = (cs, ct) := ⟨_, _, rfl⟩
  obtain ⟨ss, st, hs⟩ : ∃ ss st, dkSync es et = (ss, st) := ⟨_, _, rfl⟩
  have HCR := Lib.hid hc
  have HSY := Lib.hid hs
  clear hc hs
  obtain ⟨n3, hn3⟩ : ∃ n3, n3 = v3.heap.size := ⟨_, rfl⟩
  rw [← hn3] at HE1 ⊢
  clear hn3
  have hmx : Tryd.prog.follows .mixedOrders = true := by kernel_rfl
  go_cut [10, 11] from 34 (fun p q u => ∃ n4 n5, p = .pointer (some ⟨n4, 0, none⟩) ∧ q = .pointer (some ⟨n5, 0, none⟩) ∧ BX u n4 [.string cs, .string ct] ∧ BX u n5 [.string ss, .string st] ∧ Below V3.heap.size V3 u)
  case first =>
    refine TillZ.region (t := 8) hmx (fun u => BX u n3 [.string es, .string et]) ?_
    have HU0 : Hid (Below V3.heap.size V3 V3.drew) := Lib.hid (Below.refl _ _).drew
    have hS0 := HE1.out.below HU0.out
    refine TillZ.take (i := 0) (v := .agg #[.string es, .string et]) rfl rfl rfl (by kernel_rfl) (by kernel_rfl) (by kernel_rfl) (by kernel_rfl) hS0 (fun u hu => by have z0 := hu.cell 0 _ rfl; have z1 := hu.cell 1 _ rfl; go_simp) ?_
    simp only [Act.put, List.getElem_toArray, List.getElem_cons_zero, List.getElem_cons_succ, List.setIfInBounds_toArray, List.set_cons_zero, List.set_cons_succ]
    refine TillZ.take (i := 1) (v := .int .i64 k) rfl rfl rfl (by kernel_rfl) (by kernel_rfl) (by kernel_rfl) (by kernel_rfl) hS0 (fun u hu => by go_simp) ?_
    simp only [Act.put, List.getElem_toArray, List.getElem_cons_zero, List.getElem_cons_succ, List.setIfInBounds_toArray, List.set_cons_zero, List.set_cons_succ]
    refine TillZ.take (i := 3) (v := .agg #[.string es, .string et]) rfl rfl rfl (by kernel_rfl) (by kernel_rfl) (by kernel_rfl) (by kernel_rfl) hS0 (fun u hu => by have z0 := hu.cell 0 _ rfl; have z1 := hu.cell 1 _ rfl; go_simp) ?_
    simp only [Act.put, List.getElem_toArray, List.getElem_cons_zero, List.getElem_cons_succ, List.setIfInBounds_toArray, List.set_cons_zero, List.set_cons_succ]
    generalize V3.drew = u0 at *
    refine three (i := 2) (j := 5) (m := 6) (by kernel_rfl) ?_ ?_ ?_
    · skip
      refine TillZ.callz (i := 2) (f := 8) (args := #[.agg #[.string es, .string et], .int .i64 k]) rfl rfl rfl (by go_simp) ?_
      refine Calls.mono (implCrash_any es et k u0 HSE.out) ?_
      rintro e q1 ⟨rfl, hb⟩
      rw [HCR.out]
      unfold dkV
      dsimp only
      have HUq1 := Lib.hid (HU0.out.trans (hb.mono HU0.out.size))
      refine ⟨_, rfl, HE1.out.below HUq1.out, ?_⟩
      simp only [Act.put, List.getElem_toArray, List.getElem_cons_zero, List.getElem_cons_succ, List.setIfInBounds_toArray, List.set_cons_zero, List.set_cons_succ]
      clear hb
      refine three (i := 4) (j := 5) (m := 6) (by kernel_rfl) ?_ ?_ ?_
      · skip
        refine TillZ.callz (i := 4) (f := 9) (args := #[.agg #[.string es, .string et]]) rfl rfl rfl (by go_simp) ?_
        refine Calls.mono (implSync_any es et q1 HSE.out) ?_
        rintro e q2 ⟨rfl, hb⟩
        rw [HSY.out]
        unfold dkV
        dsimp only
        have HUq2 := Lib.hid (HUq1.out.trans (hb.mono HUq1.out.size))
        refine ⟨_, rfl, HE1.out.below HUq2.out, ?_⟩
        simp only [Act.put, List.getElem_toArray, List.getElem_cons_zero, List.getElem_cons_succ, List.setIfInBounds_toArray, List.set_cons_zero, List.set_cons_succ]
        clear hb
        refine TillZ.two (i := 5) (j := 6) (by kernel_rfl) ?_ ?_
        · skip
          refine TillZ.opz (i := 5) (v := .pointer (some ⟨q2.heap.size, 0, none⟩)) (w' := q2.alloc (.cells #[.string ⟨#[]⟩, .string ⟨#[]⟩] 24)) rfl rfl rfl (by go_simp) (HE1.out.below (HUq2.out.alloc HUq2.out.size _)) ?_
          simp only [Act.put, List.getElem_toArray, List.getElem_cons_zero, List.getElem_cons_succ, List.setIfInBounds_toArray, List.set_cons_zero, List.set_cons_succ]
          have HUq3 := Lib.hid (HUq2.out.alloc HUq2.out.size (.cells #[.string ⟨#[]⟩, .string ⟨#[]⟩] 24))
          have HX5q3 := Lib.hid (BX.made q2 #[.string ⟨#[]⟩, .string ⟨#[]⟩] 24)
          have HNq3 := Lib.hid HUq2.out.size
          generalize hwq3 : q2.alloc (.cells #[.string ⟨#[]⟩, .string ⟨#[]⟩] 24) = q3 at *
          clear hwq3
          refine TillZ.one (i := 6) (by kernel_rfl) ?_
          refine TillZ.opz (i := 6) (v := .pointer (some ⟨q3.heap.size, 0, none⟩)) (w' := q3.alloc (.cells #[.string ⟨#[]⟩, .string ⟨#[]⟩] 24)) rfl rfl rfl (by go_simp) (HE1.out.below (HUq3.out.alloc HUq3.out.size _)) ?_
          simp only [Act.put, List.getElem_toArray, List.getElem_cons_zero, List.getElem_cons_succ, List.setIfInBounds_toArray, List.set_cons_zero, List.set_cons_succ]
          have HUq4 := Lib.hid (HUq3.out.alloc HUq3.out.size (.cells #[.string ⟨#[]⟩, .string ⟨#[]⟩] 24))
          have HX6q4 := Lib.hid (BX.made q3 #[.string ⟨#[]⟩, .string ⟨#[]⟩] 24)
          have HNq4 := Lib.hid HUq3.out.size
          have HX5q4 := Lib.hid (HX5q3.out.alloc (.cells #[.string ⟨#[]⟩, .string ⟨#[]⟩] 24))
          have HLTq4 := Lib.hid HX5q3.out.lt
          generalize hwq4 : q3.alloc (.cells #[.string ⟨#[]⟩, .string ⟨#[]⟩] 24) = q4 at *
          clear hwq4
          have y0 := HX5q4.out.cell 0 _ rfl
          have y1 := HX5q4.out.cell 1 _ rfl
          have f0 := HX5q4.out.free 0
          have f1 := HX5q4.out.free 1
          have ylt := HX5q4.out.lt
          have hne : q2.heap.size ≠ q3.heap.size := by have := HLTq4.out; omega
          obtain ⟨u9, h9⟩ : ∃ u9, u9 = (q4.setCell ⟨q2.heap.size, 0, none⟩ (.string cs)).setCell ⟨q2.heap.size, 1, none⟩ (.string ct) := ⟨_, rfl⟩
          have HX9 := Lib.hid (show BX u9 q2.heap.size [.string cs, .string ct] by rw [h9]; exact (HX5q4.out.set (j := 0) (by simp) _).set (j := 1) (by simp) _)
          have HY9 := Lib.hid (show BX u9 q3.heap.size [.string ⟨#[]⟩, .string ⟨#[]⟩] by rw [h9]; exact (HX6q4.out.other _ _ hne).other _ _ hne)
          have HU9 := Lib.hid (show Below V3.heap.size V3 u9 by rw [h9]; exact (HUq4.out.setCell (p := ⟨q2.heap.size, 0, none⟩) HNq3.out _).setCell (p := ⟨q2.heap.size, 1, none⟩) HNq3.out _)
          refine TillZ.one (i := 7) (by kernel_rfl) ?_
          refine TillZ.opz_skip (i := 7) (w' := u9) rfl rfl rfl (by rw [h9]; go_simp) (HE1.out.below HU9.out) ?_
          simp only [Act.put, List.getElem_toArray, List.getElem_cons_zero, List.getElem_cons_succ, List.setIfInBounds_toArray, List.set_cons_zero, List.set_cons_succ]
          clear y0 y1 f0 f1 ylt h9
          have y0 := HY9.out.cell 0 _ rfl
          have y1 := HY9.out.cell 1 _ rfl
          have f0 := HY9.out.free 0
          have f1 := HY9.out.free 1
          have ylt := HY9.out.lt
          refine TillZ.hand_skip (w' := (u9.setCell ⟨q3.heap.size, 0, none⟩ (.string ss)).setCell ⟨q3.heap.size, 1, none⟩ (.string st)) (by kernel_rfl) rfl rfl (by go_simp) ?_
          simp only [Act.put, List.getElem_toArray, List.getElem_cons_zero, List.getElem_cons_succ, List.setIfInBounds_toArray, List.set_cons_zero, List.set_cons_succ]
          refine TillZ.any_done (by kernel_rfl) ?_ _
          go_wp2_with fail
          go_meet
          case rel => exact ⟨q2.heap.size, q3.heap.size, rfl, rfl, (HX9.out.other _ _ (Ne.symm hne)).other _ _ (Ne.symm hne), (HY9.out.set (j := 0) (by simp) _).set (j := 1) (by simp) _, (HU9.out.setCell (p := ⟨q3.heap.size, 0, none⟩) HNq4.out _).setCell (p := ⟨q3.heap.size, 1, none⟩) HNq4.out _⟩
        · skip
          refine TillZ.opz (i := 6) (v := .pointer (some ⟨q2.heap.size, 0, none⟩)) (w' := q2.alloc (.cells #[.string ⟨#[]⟩, .string ⟨#[]⟩] 24)) rfl rfl rfl (by go_simp) (HE1.out.below (HUq2.out.alloc HUq2.out.size _)) ?_
          simp only [Act.put, List.getElem_toArray, List.getElem_cons_zero, List.getElem_cons_succ, List.setIfInBounds_toArray, List.set_cons_zero, List.set_cons_succ]
          have HUq5 := Lib.hid (HUq2.out.alloc HUq2.out.size (.cells #[.string ⟨#[]⟩, .string ⟨#[]⟩] 24))
          have HX6q5 := Lib.hid (BX.made q2 #[.string ⟨#[]⟩, .string ⟨#[]⟩] 24)
          have HNq5 := Lib.hid HUq2.out.size
          generalize hwq5 : q2.alloc (.cells #[.string ⟨#[]⟩, .string ⟨#[]⟩] 24) = q5 at *
          clear hwq5
          refine TillZ.one (i := 5) (by kernel_rfl) ?_
          refine TillZ.opz (i := 5) (v := .pointer (some ⟨q5.heap.size, 0, none⟩)) (w' := q5.alloc (.cells #[.string ⟨#[]⟩, .string ⟨#[]⟩] 24)) rfl rfl rfl (by go_simp) (HE1.out.below (HUq5.out.alloc HUq5.out.size _)) ?_
          simp only [Act.put, List.getElem_toArray, List.getElem_cons_zero, List.getElem_cons_succ, List.setIfInBounds_toArray, List.set_cons_zero, List.set_cons_succ]
          have HUq6 := Lib.hid (HUq5.out.alloc HUq5.out.size (.cells #[.string ⟨#[]⟩, .string ⟨#[]⟩] 24))
          have HX5q6 := Lib.hid (BX.made q5 #[.string ⟨#[]⟩, .string ⟨#[]⟩] 24)
          have HNq6 := Lib.hid HUq5.out.size
          have HX6q6 := Lib.hid (HX6q5.out.alloc (.cells #[.string ⟨#[]⟩, .string ⟨#[]⟩] 24))
          have HLTq6 := Lib.hid HX6q5.out.lt
          generalize hwq6 : q5.alloc (.cells #[.string ⟨#[]⟩, .string ⟨#[]⟩] 24) = q6 at *
          clear hwq6
          have y0 := HX5q6.out.cell 0 _ rfl
          have y1 := HX5q6.out.cell 1 _ rfl
          have f0 := HX5q6.out.free 0
          have f1 := HX5q6.out.free 1
          have ylt := HX5q6.out.lt
          have hne : q5.heap.size ≠ q2.heap.size := by have := HLTq6.out; omega
          obtain ⟨u9, h9⟩ : ∃ u9, u9 = (q6.setCell ⟨q5.heap.size, 0, none⟩ (.string cs)).setCell ⟨q5.heap.size, 1, none⟩ (.string ct) := ⟨_, rfl⟩
          have HX9 := Lib.hid (show BX u9 q5.heap.size [.string cs, .string ct] by rw [h9]; exact (HX5q6.out.set (j := 0) (by simp) _).set (j := 1) (by simp) _)
          have HY9 := Lib.hid (show BX u9 q2.heap.size [.string ⟨#[]⟩, .string ⟨#[]⟩] by rw [h9]; exact (HX6q6.out.other _ _ hne).other _ _ hne)
          have HU9 := Lib.hid (show Below V3.heap.size V3 u9 by rw [h9]; exact (HUq6.out.setCell (p := ⟨q5.heap.size, 0, none⟩) HNq6.out _).setCell (p := ⟨q5.heap.size, 1, none⟩) HNq6.out _)
          refine TillZ.one (i := 7) (by kernel_rfl) ?_
          refine TillZ.opz_skip (i := 7) (w' := u9) rfl rfl rfl (by rw [h9]; go_simp) (HE1.out.below HU9.out) ?_
          simp only [Act.put, List.getElem_toArray, List.getElem_cons_zero, List.getElem_cons_succ, List.setIfInBounds_toArray, List.set_cons_zero, List.set_cons_succ]
          clear y0 y1 f0 f1 ylt h9
          have y0 := HY9.out.cell 0 _ rfl
          have y1 := HY9.out.cell 1 _ rfl
          have f0 := HY9.out.free 0
          have f1 := HY9.out.free 1
          have ylt := HY9.out.lt
          refine TillZ.hand_skip (w' := (u9.setCell ⟨q2.heap.size, 0, none⟩ (.string ss)).setCell ⟨q2.heap.size, 1, none⟩ (.string st)) (by kernel_rfl) rfl rfl (by go_simp) ?_
          simp only [Act.put, List.getElem_toArray, List.getElem_cons_zero, List.getElem_cons_succ, List.setIfInBounds_toArray, List.set_cons_zero, List.set_cons_succ]
          refine TillZ.any_done (by kernel_rfl) ?_ _
          go_wp2_with fail
          go_meet
          case rel => exact ⟨q5.heap.size, q2.heap.size, rfl, rfl, (HX9.out.other _ _ (Ne.symm hne)).other _ _ (Ne.symm hne), (HY9.out.set (j := 0) (by simp) _).set (j := 1) (by simp) _, (HU9.out.setCell (p := ⟨q2.heap.size, 0, none⟩) HNq5.out _).setCell (p := ⟨q2.heap.size, 1, none⟩) HNq5.out _⟩
      · skip
        refine TillZ.opz (i := 5) (v := .pointer (some ⟨q1.heap.size, 0, none⟩)) (w' := q1.alloc (.cells #[.string ⟨#[]⟩, .string ⟨#[]⟩] 24)) rfl rfl rfl (by go_simp) (HE1.out.below (HUq1.out.alloc HUq1.out.size _)) ?_
        simp only [Act.put, List.getElem_toArray, List.getElem_cons_zero, List.getElem_cons_succ, List.setIfInBounds_toArray, List.set_cons_zero, List.set_cons_succ]
        have HUq7 := Lib.hid (HUq1.out.alloc HUq1.out.size (.cells #[.string ⟨#[]⟩, .string ⟨#[]⟩] 24))
        have HX5q7 := Lib.hid (BX.made q1 #[.string ⟨#[]⟩, .string ⟨#[]⟩] 24)
        have HNq7 := Lib.hid HUq1.out.size
        generalize hwq7 : q1.alloc (.cells #[.string ⟨#[]⟩, .string ⟨#[]⟩] 24) = q7 at *
        clear hwq7
        refine TillZ.two (i := 4) (j := 6) (by kernel_rfl) ?_ ?_
        · skip
          refine TillZ.callz (i := 4) (f := 9) (args := #[.agg #[.string es, .string et]]) rfl rfl rfl (by go_simp) ?_
          refine Calls.mono (implSync_any es et q7 HSE.out) ?_
          rintro e q8 ⟨rfl, hb⟩
          rw [HSY.out]
          unfold dkV
          dsimp only
          have HUq8 := Lib.hid (HUq7.out.trans (hb.mono HUq7.out.size))
          have HX5q8 := Lib.hid (HX5q7.out.below hb)
          refine ⟨_, rfl, HE1.out.below HUq8.out, ?_⟩
          simp only [Act.put, List.getElem_toArray, List.getElem_cons_zero, List.getElem_cons_succ, List.setIfInBounds_toArray, List.set_cons_zero, List.set_cons_succ]
          clear hb
          refine TillZ.one (i := 6) (by kernel_rfl) ?_
          refine TillZ.opz (i := 6) (v := .pointer (some ⟨q8.heap.size, 0, none⟩)) (w' := q8.alloc (.cells #[.string ⟨#[]⟩, .string ⟨#[]⟩] 24)) rfl rfl rfl (by go_simp) (HE1.out.below (HUq8.out.alloc HUq8.out.size _)) ?_
          simp only [Act.put, List.getElem_toArray, List.getElem_cons_zero, List.getElem_cons_succ, List.setIfInBounds_toArray, List.set_cons_zero, List.set_cons_succ]
          have HUq9 := Lib.hid (HUq8.out.alloc HUq8.out.size (.cells #[.string ⟨#[]⟩, .string ⟨#[]⟩] 24))
          have HX6q9 := Lib.hid (BX.made q8 #[.string ⟨#[]⟩, .string ⟨#[]⟩] 24)
          have HNq9 := Lib.hid HUq8.out.size
          have HX5q9 := Lib.hid (HX5q8.out.alloc (.cells #[.string ⟨#[]⟩, .string ⟨#[]⟩] 24))
          have HLTq9 := Lib.hid HX5q8.out.lt
          generalize hwq9 : q8.alloc (.cells #[.string ⟨#[]⟩, .string ⟨#[]⟩] 24) = q9 at *
          clear hwq9
          have y0 := HX5q9.out.cell 0 _ rfl
          have y1 := HX5q9.out.cell 1 _ rfl
          have f0 := HX5q9.out.free 0
          have f1 := HX5q9.out.free 1
          have ylt := HX5q9.out.lt
          have hne : q1.heap.size ≠ q8.heap.size := by have := HLTq9.out; omega
          obtain ⟨u9, h9⟩ : ∃ u9, u9 = (q9.setCell ⟨q1.heap.size, 0, none⟩ (.string cs)).setCell ⟨q1.heap.size, 1, none⟩ (.string ct) := ⟨_, rfl⟩
          have HX9 := Lib.hid (show BX u9 q1.heap.size [.string cs, .string ct] by rw [h9]; exact (HX5q9.out.set (j := 0) (by simp) _).set (j := 1) (by simp) _)
          have HY9 := Lib.hid (show BX u9 q8.heap.size [.string ⟨#[]⟩, .string ⟨#[]⟩] by rw [h9]; exact (HX6q9.out.other _ _ hne).other _ _ hne)
          have HU9 := Lib.hid (show Below V3.heap.size V3 u9 by rw [h9]; exact (HUq9.out.setCell (p := ⟨q1.heap.size, 0, none⟩) HNq7.out _).setCell (p := ⟨q1.heap.size, 1, none⟩) HNq7.out _)
          refine TillZ.one (i := 7) (by kernel_rfl) ?_
          refine TillZ.opz_skip (i := 7) (w' := u9) rfl rfl rfl (by rw [h9]; go_simp) (HE1.out.below HU9.out) ?_
          simp only [Act.put, List.getElem_toArray, List.getElem_cons_zero, List.getElem_cons_succ, List.setIfInBounds_toArray, List.set_cons_zero, List.set_cons_succ]
          clear y0 y1 f0 f1 ylt h9
          have y0 := HY9.out.cell 0 _ rfl
          have y1 := HY9.out.cell 1 _ rfl
          have f0 := HY9.out.free 0
          have f1 := HY9.out.free 1
          have ylt := HY9.out.lt
          refine TillZ.hand_skip (w' := (u9.setCell ⟨q8.heap.size, 0, none⟩ (.string ss)).setCell ⟨q8.heap.size, 1, none⟩ (.string st)) (by kernel_rfl) rfl rfl (by go_simp) ?_
          simp only [Act.put, List.getElem_toArray, List.getElem_cons_zero, List.getElem_cons_succ, List.setIfInBounds_toArray, List.set_cons_zero, List.set_cons_succ]
          refine TillZ.any_done (by kernel_rfl) ?_ _
          go_wp2_with fail
          go_meet
          case rel => exact ⟨q1.heap.size, q8.heap.size, rfl, rfl, (HX9.out.other _ _ (Ne.symm hne)).other _ _ (Ne.symm hne), (HY9.out.set (j := 0) (by simp) _).set (j := 1) (by simp) _, (HU9.out.setCell (p := ⟨q8.heap.size, 0, none⟩) HNq9.out _).setCell (p := ⟨q8.heap.size, 1, none⟩) HNq9.out _⟩
        · skip
          refine TillZ.opz (i := 6) (v := .pointer (some ⟨q7.heap.size, 0, none⟩)) (w' := q7.alloc (.cells #[.string ⟨#[]⟩, .string ⟨#[]⟩] 24)) rfl rfl rfl (by go_simp) (HE1.out.below (HUq7.out.alloc HUq7.out.size _)) ?_
          simp only [Act.put, List.getElem_toArray, List.getElem_cons_zero, List.getElem_cons_succ, List.setIfInBounds_toArray, List.set_cons_zero, List.set_cons_succ]
          have HUq10 := Lib.hid (HUq7.out.alloc HUq7.out.size (.cells #[.string ⟨#[]⟩, .string ⟨#[]⟩] 24))
          have HX6q10 := Lib.hid (BX.made q7 #[.string ⟨#[]⟩, .string ⟨#[]⟩] 24)
          have HNq10 := Lib.hid HUq7.out.size
          have HX5q10 := Lib.hid (HX5q7.out.alloc (.cells #[.string ⟨#[]⟩, .string ⟨#[]⟩] 24))
          have HLTq10 := Lib.hid HX5q7.out.lt
          generalize hwq10 : q7.alloc (.cells #[.string ⟨#[]⟩, .string ⟨#[]⟩] 24) = q10 at *
          clear hwq10
          refine TillZ.one (i := 4) (by kernel_rfl) ?_
          refine TillZ.callz (i := 4) (f := 9) (args := #[.agg #[.string es, .string et]]) rfl rfl rfl (by go_simp) ?_
          refine Calls.mono (implSync_any es et q10 HSE.out) ?_
          rintro e q11 ⟨rfl, hb⟩
          rw [HSY.out]
          unfold dkV
          dsimp only
          have HUq11 := Lib.hid (HUq10.out.trans (hb.mono HUq10.out.size))
          have HX5q11 := Lib.hid (HX5q10.out.below hb)
          have HX6q11 := Lib.hid (HX6q10.out.below hb)
          refine ⟨_, rfl, HE1.out.below HUq11.out, ?_⟩
          simp only [Act.put, List.getElem_toArray, List.getElem_cons_zero, List.getElem_cons_succ, List.setIfInBounds_toArray, List.set_cons_zero, List.set_cons_succ]
          clear hb
          have y0 := HX5q11.out.cell 0 _ rfl
          have y1 := HX5q11.out.cell 1 _ rfl
          have f0 := HX5q11.out.free 0
          have f1 := HX5q11.out.free 1
          have ylt := HX5q11.out.lt
          have hne : q1.heap.size ≠ q7.heap.size := by have := HLTq10.out; omega
          obtain ⟨u9, h9⟩ : ∃ u9, u9 = (q11.setCell ⟨q1.heap.size, 0, none⟩ (.string cs)).setCell ⟨q1.heap.size, 1, none⟩ (.string ct) := ⟨_, rfl⟩
          have HX9 := Lib.hid (show BX u9 q1.heap.size [.string cs, .string ct] by rw [h9]; exact (HX5q11.out.set (j := 0) (by simp) _).set (j := 1) (by simp) _)
          have HY9 := Lib.hid (show BX u9 q7.heap.size [.string ⟨#[]⟩, .string ⟨#[]⟩] by rw [h9]; exact (HX6q11.out.other _ _ hne).other _ _ hne)
          have HU9 := Lib.hid (show Below V3.heap.size V3 u9 by rw [h9]; exact (HUq11.out.setCell (p := ⟨q1.heap.size, 0, none⟩) HNq7.out _).setCell (p := ⟨q1.heap.size, 1, none⟩) HNq7.out _)
          refine TillZ.one (i := 7) (by kernel_rfl) ?_
          refine TillZ.opz_skip (i := 7) (w' := u9) rfl rfl rfl (by rw [h9]; go_simp) (HE1.out.below HU9.out) ?_
          simp only [Act.put, List.getElem_toArray, List.getElem_cons_zero, List.getElem_cons_succ, List.setIfInBounds_toArray, List.set_cons_zero, List.set_cons_succ]
          clear y0 y1 f0 f1 ylt h9
          have y0 := HY9.out.cell 0 _ rfl
          have y1 := HY9.out.cell 1 _ rfl
          have f0 := HY9.out.free 0
          have f1 := HY9.out.free 1
          have ylt := HY9.out.lt
          refine TillZ.hand_skip (w' := (u9.setCell ⟨q7.heap.size, 0, none⟩ (.string ss)).setCell ⟨q7.heap.size, 1, none⟩ (.string st)) (by kernel_rfl) rfl rfl (by go_simp) ?_
          simp only [Act.put, List.getElem_toArray, List.getElem_cons_zero, List.getElem_cons_succ, List.setIfInBounds_toArray, List.set_cons_zero, List.set_cons_succ]
          refine TillZ.any_done (by kernel_rfl) ?_ _
          go_wp2_with fail
          go_meet
          case rel => exact ⟨q1.heap.size, q7.heap.size, rfl, rfl, (HX9.out.other _ _ (Ne.symm hne)).other _ _ (Ne.symm hne), (HY9.out.set (j := 0) (by simp) _).set (j := 1) (by simp) _, (HU9.out.setCell (p := ⟨q7.heap.size, 0, none⟩) HNq10.out _).setCell (p := ⟨q7.heap.size, 1, none⟩) HNq10.out _⟩
      · skip
        refine TillZ.opz (i := 6) (v := .pointer (some ⟨q1.heap.size, 0, none⟩)) (w' := q1.alloc (.cells #[.string ⟨#[]⟩, .string ⟨#[]⟩] 24)) rfl rfl rfl (by go_simp) (HE1.out.below (HUq1.out.alloc HUq1.out.size _)) ?_
        simp only [Act.put, List.getElem_toArray, List.getElem_cons_zero, List.getElem_cons_succ, List.setIfInBounds_toArray, List.set_cons_zero, List.set_cons_succ]
        have HUq12 := Lib.hid (HUq1.out.alloc HUq1.out.size (.cells #[.string ⟨#[]⟩, .string ⟨#[]⟩] 24))
        have HX6q12 := Lib.hid (BX.made q1 #[.string ⟨#[]⟩, .string ⟨#[]⟩] 24)
        have HNq12 := Lib.hid HUq1.out.size
        generalize hwq12 : q1.alloc (.cells #[.string ⟨#[]⟩, .string ⟨#[]⟩] 24) = q12 at *
        clear hwq12
        refine TillZ.two (i := 4) (j := 5) (by kernel_rfl) ?_ ?_
        · skip
          refine TillZ.callz (i := 4) (f := 9) (args := #[.agg #[.string es, .string et]]) rfl rfl rfl (by go_simp) ?_
          refine Calls.mono (implSync_any es et q12 HSE.out) ?_
          rintro e q13 ⟨rfl, hb⟩
          rw [HSY.out]
          unfold dkV
          dsimp only
          have HUq13 := Lib.hid (HUq12.out.trans (hb.mono HUq12.out.size))
          have HX6q13 := Lib.hid (HX6q12.out.below hb)
          refine ⟨_, rfl, HE1.out.below HUq13.out, ?_⟩
          simp only [Act.put, List.getElem_toArray, List.getElem_cons_zero, List.getElem_cons_succ, List.setIfInBounds_toArray, List.set_cons_zero, List.set_cons_succ]
          clear hb
          refine TillZ.one (i := 5) (by kernel_rfl) ?_
          refine TillZ.opz (i := 5) (v := .pointer (some ⟨q13.heap.size, 0, none⟩)) (w' := q13.alloc (.cells #[.string ⟨#[]⟩, .string ⟨#[]⟩] 24)) rfl rfl rfl (by go_simp) (HE1.out.below (HUq13.out.alloc HUq13.out.size _)) ?_
          simp only [Act.put, List.getElem_toArray, List.getElem_cons_zero, List.getElem_cons_succ, List.setIfInBounds_toArray, List.set_cons_zero, List.set_cons_succ]
          have HUq14 := Lib.hid (HUq13.out.alloc HUq13.out.size (.cells #[.string ⟨#[]⟩, .string ⟨#[]⟩] 24))
          have HX5q14 := Lib.hid (BX.made q13 #[.string ⟨#[]⟩, .string ⟨#[]⟩] 24)
          have HNq14 := Lib.hid HUq13.out.size
          have HX6q14 := Lib.hid (HX6q13.out.alloc (.cells #[.string ⟨#[]⟩, .string ⟨#[]⟩] 24))
          have HLTq14 := Lib.hid HX6q13.out.lt
          generalize hwq14 : q13.alloc (.cells #[.string ⟨#[]⟩, .string ⟨#[]⟩] 24) = q14 at *
          clear hwq14
          have y0 := HX5q14.out.cell 0 _ rfl
          have y1 := HX5q14.out.cell 1 _ rfl
          have f0 := HX5q14.out.free 0
          have f1 := HX5q14.out.free 1
          have ylt := HX5q14.out.lt
          have hne : q13.heap.size ≠ q1.heap.size := by have := HLTq14.out; omega
          obtain ⟨u9, h9⟩ : ∃ u9, u9 = (q14.setCell ⟨q13.heap.size, 0, none⟩ (.string cs)).setCell ⟨q13.heap.size, 1, none⟩ (.string ct) := ⟨_, rfl⟩
          have HX9 := Lib.hid (show BX u9 q13.heap.size [.string cs, .string ct] by rw [h9]; exact (HX5q14.out.set (j := 0) (by simp) _).set (j := 1) (by simp) _)
          have HY9 := Lib.hid (show BX u9 q1.heap.size [.string ⟨#[]⟩, .string ⟨#[]⟩] by rw [h9]; exact (HX6q14.out.other _ _ hne).other _ _ hne)
          have HU9 := Lib.hid (show Below V3.heap.size V3 u9 by rw [h9]; exact (HUq14.out.setCell (p := ⟨q13.heap.size, 0, none⟩) HNq14.out _).setCell (p := ⟨q13.heap.size, 1, none⟩) HNq14.out _)
          refine TillZ.one (i := 7) (by kernel_rfl) ?_
          refine TillZ.opz_skip (i := 7) (w' := u9) rfl rfl rfl (by rw [h9]; go_simp) (HE1.out.below HU9.out) ?_
          simp only [Act.put, List.getElem_toArray, List.getElem_cons_zero, List.getElem_cons_succ, List.setIfInBounds_toArray, List.set_cons_zero, List.set_cons_succ]
          clear y0 y1 f0 f1 ylt h9
          have y0 := HY9.out.cell 0 _ rfl
          have y1 := HY9.out.cell 1 _ rfl
          have f0 := HY9.out.free 0
          have f1 := HY9.out.free 1
          have ylt := HY9.out.lt
          refine TillZ.hand_skip (w' := (u9.setCell ⟨q1.heap.size, 0, none⟩ (.string ss)).setCell ⟨q1.heap.size, 1, none⟩ (.string st)) (by kernel_rfl) rfl rfl (by go_simp) ?_
          simp only [Act.put, List.getElem_toArray, List.getElem_cons_zero, List.getElem_cons_succ, List.setIfInBounds_toArray, List.set_cons_zero, List.set_cons_succ]
          refine TillZ.any_done (by kernel_rfl) ?_ _
          go_wp2_with fail
          go_meet
          case rel => exact ⟨q13.heap.size, q1.heap.size, rfl, rfl, (HX9.out.other _ _ (Ne.symm hne)).other _ _ (Ne.symm hne), (HY9.out.set (j := 0) (by simp) _).set (j := 1) (by simp) _, (HU9.out.setCell (p := ⟨q1.heap.size, 0, none⟩) HNq12.out _).setCell (p := ⟨q1.heap.size, 1, none⟩) HNq12.out _⟩
        · skip
          refine TillZ.opz (i := 5) (v := .pointer (some ⟨q12.heap.size, 0, none⟩)) (w' := q12.alloc (.cells #[.string ⟨#[]⟩, .string ⟨#[]⟩] 24)) rfl rfl rfl (by go_simp) (HE1.out.below (HUq12.out.alloc HUq12.out.size _)) ?_
          simp only [Act.put, List.getElem_toArray, List.getElem_cons_zero, List.getElem_cons_succ, List.setIfInBounds_toArray, List.set_cons_zero, List.set_cons_succ]
          have HUq15 := Lib.hid (HUq12.out.alloc HUq12.out.size (.cells #[.string ⟨#[]⟩, .string ⟨#[]⟩] 24))
          have HX5q15 := Lib.hid (BX.made q12 #[.string ⟨#[]⟩, .string ⟨#[]⟩] 24)
          have HNq15 := Lib.hid HUq12.out.size
          have HX6q15 := Lib.hid (HX6q12.out.alloc (.cells #[.string ⟨#[]⟩, .string ⟨#[]⟩] 24))
          have HLTq15 := Lib.hid HX6q12.out.lt
          generalize hwq15 : q12.alloc (.cells #[.string ⟨#[]⟩, .string ⟨#[]⟩] 24) = q15 at *
          clear hwq15
          refine TillZ.one (i := 4) (by kernel_rfl) ?_
          refine TillZ.callz (i := 4) (f := 9) (args := #[.agg #[.string es, .string et]]) rfl rfl rfl (by go_simp) ?_
          refine Calls.mono (implSync_any es et q15 HSE.out) ?_
          rintro e q16 ⟨rfl, hb⟩
          rw [HSY.out]
          unfold dkV
          dsimp only
          have HUq16 := Lib.hid (HUq15.out.trans (hb.mono HUq15.out.size))
          have HX5q16 := Lib.hid (HX5q15.out.below hb)
          have HX6q16 := Lib.hid (HX6q15.out.below hb)
          refine ⟨_, rfl, HE1.out.below HUq16.out, ?_⟩
          simp only [Act.put, List.getElem_toArray, List.getElem_cons_zero, List.getElem_cons_succ, List.setIfInBounds_toArray, List.set_cons_zero, List.set_cons_succ]
          clear hb
          have y0 := HX5q16.out.cell 0 _ rfl
          have y1 := HX5q16.out.cell 1 _ rfl
          have f0 := HX5q16.out.free 0
          have f1 := HX5q16.out.free 1
          have ylt := HX5q16.out.lt
          have hne : q12.heap.size ≠ q1.heap.size := by have := HLTq15.out; omega
          obtain ⟨u9, h9⟩ : ∃ u9, u9 = (q16.setCell ⟨q12.heap.size, 0, none⟩ (.string cs)).setCell ⟨q12.heap.size, 1, none⟩ (.string ct) := ⟨_, rfl⟩
          have HX9 := Lib.hid (show BX u9 q12.heap.size [.string cs, .string ct] by rw [h9]; exact (HX5q16.out.set (j := 0) (by simp) _).set (j := 1) (by simp) _)
          have HY9 := Lib.hid (show BX u9 q1.heap.size [.string ⟨#[]⟩, .string ⟨#[]⟩] by rw [h9]; exact (HX6q16.out.other _ _ hne).other _ _ hne)
          have HU9 := Lib.hid (show Below V3.heap.size V3 u9 by rw [h9]; exact (HUq16.out.setCell (p := ⟨q12.heap.size, 0, none⟩) HNq15.out _).setCell (p := ⟨q12.heap.size, 1, none⟩) HNq15.out _)
          refine TillZ.one (i := 7) (by kernel_rfl) ?_
          refine TillZ.opz_skip (i := 7) (w' := u9) rfl rfl rfl (by rw [h9]; go_simp) (HE1.out.below HU9.out) ?_
          simp only [Act.put, List.getElem_toArray, List.getElem_cons_zero, List.getElem_cons_succ, List.setIfInBounds_toArray, List.set_cons_zero, List.set_cons_succ]
          clear y0 y1 f0 f1 ylt h9
          have y0 := HY9.out.cell 0 _ rfl
          have y1 := HY9.out.cell 1 _ rfl
          have f0 := HY9.out.free 0
          have f1 := HY9.out.free 1
          have ylt := HY9.out.lt
          refine TillZ.hand_skip (w' := (u9.setCell ⟨q1.heap.size, 0, none⟩ (.string ss)).setCell ⟨q1.heap.size, 1, none⟩ (.string st)) (by kernel_rfl) rfl rfl (by go_simp) ?_
          simp only [Act.put, List.getElem_toArray, List.getElem_cons_zero, List.getElem_cons_succ, List.setIfInBounds_toArray, List.set_cons_zero, List.set_cons_succ]
          refine TillZ.any_done (by kernel_rfl) ?_ _
          go_wp2_with fail
          go_meet
          case rel => exact ⟨q12.heap.size, q1.heap.size, rfl, rfl, (HX9.out.other _ _ (Ne.symm hne)).other _ _ (Ne.symm hne), (HY9.out.set (j := 0) (by simp) _).set (j := 1) (by simp) _, (HU9.out.setCell (p := ⟨q1.heap.size, 0, none⟩) HNq12.out _).setCell (p := ⟨q1.heap.size, 1, none⟩) HNq12.out _⟩
    · skip
      refine TillZ.opz (i := 5) (v := .pointer (some ⟨u0.heap.size, 0, none⟩)) (w' := u0.alloc (.cells #[.string ⟨#[]⟩, .string ⟨#[]⟩] 24)) rfl rfl rfl (by go_simp) (HE1.out.below (HU0.out.alloc HU0.out.size _)) ?_
      simp only [Act.put, List.getElem_toArray, List.getElem_cons_zero, List.getElem_cons_succ, List.setIfInBounds_toArray, List.set_cons_zero, List.set_cons_succ]
      have HUq17 := Lib.hid (HU0.out.alloc HU0.out.size (.cells #[.string ⟨#[]⟩, .string ⟨#[]⟩] 24))
      have HX5q17 := Lib.hid (BX.made u0 #[.string ⟨#[]⟩, .string ⟨#[]⟩] 24)
      have HNq17 := Lib.hid HU0.out.size
      generalize hwq17 : u0.alloc (.cells #[.string ⟨#[]⟩, .string ⟨#[]⟩] 24) = q17 at *
      clear hwq17
      refine TillZ.two (i := 2) (j := 6) (by kernel_rfl) ?_ ?_
      · skip
        refine TillZ.callz (i := 2) (f := 8) (args := #[.agg #[.string es, .string et], .int .i64 k]) rfl rfl rfl (by go_simp) ?_
        refine Calls.mono (implCrash_any es et k q17 HSE.out) ?_
        rintro e q18 ⟨rfl, hb⟩
        rw [HCR.out]
        unfold dkV
        dsimp only
        have HUq18 := Lib.hid (HUq17.out.trans (hb.mono HUq17.out.size))
        have HX5q18 := Lib.hid (HX5q17.out.below hb)
        refine ⟨_, rfl, HE1.out.below HUq18.out, ?_⟩
        simp only [Act.put, List.getElem_toArray, List.getElem_cons_zero, List.getElem_cons_succ, List.setIfInBounds_toArray, List.set_cons_zero, List.set_cons_succ]
        clear hb
        refine TillZ.two (i := 4) (j := 6) (by kernel_rfl) ?_ ?_
        · skip
          refine TillZ.callz (i := 4) (f := 9) (args := #[.agg #[.string es, .string et]]) rfl rfl rfl (by go_simp) ?_
          refine Calls.mono (implSync_any es et q18 HSE.out) ?_
          rintro e q19 ⟨rfl, hb⟩
          rw [HSY.out]
          unfold dkV
          dsimp only
          have HUq19 := Lib.hid (HUq18.out.trans (hb.mono HUq18.out.size))
          have HX5q19 := Lib.hid (HX5q18.out.below hb)
          refine ⟨_, rfl, HE1.out.below HUq19.out, ?_⟩
          simp only [Act.put, List.getElem_toArray, List.getElem_cons_zero, List.getElem_cons_succ, List.setIfInBounds_toArray, List.set_cons_zero, List.set_cons_succ]
          clear hb
          refine TillZ.one (i := 6) (by kernel_rfl) ?_
          refine TillZ.opz (i := 6) (v := .pointer (some ⟨q19.heap.size, 0, none⟩)) (w' := q19.alloc (.cells #[.string ⟨#[]⟩, .string ⟨#[]⟩] 24)) rfl rfl rfl (by go_simp) (HE1.out.below (HUq19.out.alloc HUq19.out.size _)) ?_
          simp only [Act.put, List.getElem_toArray, List.getElem_cons_zero, List.getElem_cons_succ, List.setIfInBounds_toArray, List.set_cons_zero, List.set_cons_succ]
          have HUq20 := Lib.hid (HUq19.out.alloc HUq19.out.size (.cells #[.string ⟨#[]⟩, .string ⟨#[]⟩] 24))
          have HX6q20 := Lib.hid (BX.made q19 #[.string ⟨#[]⟩, .string ⟨#[]⟩] 24)
          have HNq20 := Lib.hid HUq19.out.size
          have HX5q20 := Lib.hid (HX5q19.out.alloc (.cells #[.string ⟨#[]⟩, .string ⟨#[]⟩] 24))
          have HLTq20 := Lib.hid HX5q19.out.lt
          generalize hwq20 : q19.alloc (.cells #[.string ⟨#[]⟩, .string ⟨#[]⟩] 24) = q20 at *
          clear hwq20
          have y0 := HX5q20.out.cell 0 _ rfl
          have y1 := HX5q20.out.cell 1 _ rfl
          have f0 := HX5q20.out.free 0
          have f1 := HX5q20.out.free 1
          have ylt := HX5q20.out.lt
          have hne : u0.heap.size ≠ q19.heap.size := by have := HLTq20.out; omega
          obtain ⟨u9, h9⟩ : ∃ u9, u9 = (q20.setCell ⟨u0.heap.size, 0, none⟩ (.string cs)).setCell ⟨u0.heap.size, 1, none⟩ (.string ct) := ⟨_, rfl⟩
          have HX9 := Lib.hid (show BX u9 u0.heap.size [.string cs, .string ct] by rw [h9]; exact (HX5q20.out.set (j := 0) (by simp) _).set (j := 1) (by simp) _)
          have HY9 := Lib.hid (show BX u9 q19.heap.size [.string ⟨#[]⟩, .string ⟨#[]⟩] by rw [h9]; exact (HX6q20.out.other _ _ hne).other _ _ hne)
          have HU9 := Lib.hid (show Below V3.heap.size V3 u9 by rw [h9]; exact (HUq20.out.setCell (p := ⟨u0.heap.size, 0, none⟩) HNq17.out _).setCell (p := ⟨u0.heap.size, 1, none⟩) HNq17.out _)
          refine TillZ.one (i := 7) (by kernel_rfl) ?_
          refine TillZ.opz_skip (i := 7) (w' := u9) rfl rfl rfl (by rw [h9]; go_simp) (HE1.out.below HU9.out) ?_
          simp only [Act.put, List.getElem_toArray, List.getElem_cons_zero, List.getElem_cons_succ, List.setIfInBounds_toArray, List.set_cons_zero, List.set_cons_succ]
          clear y0 y1 f0 f1 ylt h9
          have y0 := HY9.out.cell 0 _ rfl
          have y1 := HY9.out.cell 1 _ rfl
          have f0 := HY9.out.free 0
          have f1 := HY9.out.free 1
          have ylt := HY9.out.lt
          refine TillZ.hand_skip (w' := (u9.setCell ⟨q19.heap.size, 0, none⟩ (.string ss)).setCell ⟨q19.heap.size, 1, none⟩ (.string st)) (by kernel_rfl) rfl rfl (by go_simp) ?_
          simp only [Act.put, List.getElem_toArray, List.getElem_cons_zero, List.getElem_cons_succ, List.setIfInBounds_toArray, List.set_cons_zero, List.set_cons_succ]
          refine TillZ.any_done (by kernel_rfl) ?_ _
          go_wp2_with fail
          go_meet
          case rel => exact ⟨u0.heap.size, q19.heap.size, rfl, rfl, (HX9.out.other _ _ (Ne.symm hne)).other _ _ (Ne.symm hne), (HY9.out.set (j := 0) (by simp) _).set (j := 1) (by simp) _, (HU9.out.setCell (p := ⟨q19.heap.size, 0, none⟩) HNq20.out _).setCell (p := ⟨q19.heap.size, 1, none⟩) HNq20.out _⟩
        · skip
          refine TillZ.opz (i := 6) (v := .pointer (some ⟨q18.heap.size, 0, none⟩)) (w' := q18.alloc (.cells #[.string ⟨#[]⟩, .string ⟨#[]⟩] 24)) rfl rfl rfl (by go_simp) (HE1.out.below (HUq18.out.alloc HUq18.out.size _)) ?_
          simp only [Act.put, List.getElem_toArray, List.getElem_cons_zero, List.getElem_cons_succ, List.setIfInBounds_toArray, List.set_cons_zero, List.set_cons_succ]
          have HUq21 := Lib.hid (HUq18.out.alloc HUq18.out.size (.cells #[.string ⟨#[]⟩, .string ⟨#[]⟩] 24))
          have HX6q21 := Lib.hid (BX.made q18 #[.string ⟨#[]⟩, .string ⟨#[]⟩] 24)
          have HNq21 := Lib.hid HUq18.out.size
          have HX5q21 := Lib.hid (HX5q18.out.alloc (.cells #[.string ⟨#[]⟩, .string ⟨#[]⟩] 24))
          have HLTq21 := Lib.hid HX5q18.out.lt
          generalize hwq21 : q18.alloc (.cells #[.string ⟨#[]⟩, .string ⟨#[]⟩] 24) = q21 at *
          clear hwq21
          refine TillZ.one (i := 4) (by kernel_rfl) ?_
          refine TillZ.callz (i := 4) (f := 9) (args := #[.agg #[.string es, .string et]]) rfl rfl rfl (by go_simp) ?_
          refine Calls.mono (implSync_any es et q21 HSE.out) ?_
          rintro e q22 ⟨rfl, hb⟩
          rw [HSY.out]
          unfold dkV
          dsimp only
          have HUq22 := Lib.hid (HUq21.out.trans (hb.mono HUq21.out.size))
          have HX5q22 := Lib.hid (HX5q21.out.below hb)
          have HX6q22 := Lib.hid (HX6q21.out.below hb)
          refine ⟨_, rfl, HE1.out.below HUq22.out, ?_⟩
          simp only [Act.put, List.getElem_toArray, List.getElem_cons_zero, List.getElem_cons_succ, List.setIfInBounds_toArray, List.set_cons_zero, List.set_cons_succ]
          clear hb
          have y0 := HX5q22.out.cell 0 _ rfl
          have y1 := HX5q22.out.cell 1 _ rfl
          have f0 := HX5q22.out.free 0
          have f1 := HX5q22.out.free 1
          have ylt := HX5q22.out.lt
          have hne : u0.heap.size ≠ q18.heap.size := by have := HLTq21.out; omega
          obtain ⟨u9, h9⟩ : ∃ u9, u9 = (q22.setCell ⟨u0.heap.size, 0, none⟩ (.string cs)).setCell ⟨u0.heap.size, 1, none⟩ (.string ct) := ⟨_, rfl⟩
          have HX9 := Lib.hid (show BX u9 u0.heap.size [.string cs, .string ct] by rw [h9]; exact (HX5q22.out.set (j := 0) (by simp) _).set (j := 1) (by simp) _)
          have HY9 := Lib.hid (show BX u9 q18.heap.size [.string ⟨#[]⟩, .string ⟨#[]⟩] by rw [h9]; exact (HX6q22.out.other _ _ hne).other _ _ hne)
          have HU9 := Lib.hid (show Below V3.heap.size V3 u9 by rw [h9]; exact (HUq22.out.setCell (p := ⟨u0.heap.size, 0, none⟩) HNq17.out _).setCell (p := ⟨u0.heap.size, 1, none⟩) HNq17.out _)
          refine TillZ.one (i := 7) (by kernel_rfl) ?_
          refine TillZ.opz_skip (i := 7) (w' := u9) rfl rfl rfl (by rw [h9]; go_simp) (HE1.out.below HU9.out) ?_
          simp only [Act.put, List.getElem_toArray, List.getElem_cons_zero, List.getElem_cons_succ, List.setIfInBounds_toArray, List.set_cons_zero, List.set_cons_succ]
          clear y0 y1 f0 f1 ylt h9
          have y0 := HY9.out.cell 0 _ rfl
          have y1 := HY9.out.cell 1 _ rfl
          have f0 := HY9.out.free 0
          have f1 := HY9.out.free 1
          have ylt := HY9.out.lt
          refine TillZ.hand_skip (w' := (u9.setCell ⟨q18.heap.size, 0, none⟩ (.string ss)).setCell ⟨q18.heap.size, 1, none⟩ (.string st)) (by kernel_rfl) rfl rfl (by go_simp) ?_
          simp only [Act.put, List.getElem_toArray, List.getElem_cons_zero, List.getElem_cons_succ, List.setIfInBounds_toArray, List.set_cons_zero, List.set_cons_succ]
          refine TillZ.any_done (by kernel_rfl) ?_ _
          go_wp2_with fail
          go_meet
          case rel => exact ⟨u0.heap.size, q18.heap.size, rfl, rfl, (HX9.out.other _ _ (Ne.symm hne)).other _ _ (Ne.symm hne), (HY9.out.set (j := 0) (by simp) _).set (j := 1) (by simp) _, (HU9.out.setCell (p := ⟨q18.heap.size, 0, none⟩) HNq21.out _).setCell (p := ⟨q18.heap.size, 1, none⟩) HNq21.out _⟩
      · skip
        refine TillZ.opz (i := 6) (v := .pointer (some ⟨q17.heap.size, 0, none⟩)) (w' := q17.alloc (.cells #[.string ⟨#[]⟩, .string ⟨#[]⟩] 24)) rfl rfl rfl (by go_simp) (HE1.out.below (HUq17.out.alloc HUq17.out.size _)) ?_
        simp only [Act.put, List.getElem_toArray, List.getElem_cons_zero, List.getElem_cons_succ, List.setIfInBounds_toArray, List.set_cons_zero, List.set_cons_succ]
        have HUq23 := Lib.hid (HUq17.out.alloc HUq17.out.size (.cells #[.string ⟨#[]⟩, .string ⟨#[]⟩] 24))
        have HX6q23 := Lib.hid (BX.made q17 #[.string ⟨#[]⟩, .string ⟨#[]⟩] 24)
        have HNq23 := Lib.hid HUq17.out.size
        have HX5q23 := Lib.hid (HX5q17.out.alloc (.cells #[.string ⟨#[]⟩, .string ⟨#[]⟩] 24))
        have HLTq23 := Lib.hid HX5q17.out.lt
        generalize hwq23 : q17.alloc (.cells #[.string ⟨#[]⟩, .string ⟨#[]⟩] 24) = q23 at *
        clear hwq23
        refine TillZ.one (i := 2) (by kernel_rfl) ?_
        refine TillZ.callz (i := 2) (f := 8) (args := #[.agg #[.string es, .string et], .int .i64 k]) rfl rfl rfl (by go_simp) ?_
        refine Calls.mono (implCrash_any es et k q23 HSE.out) ?_
        rintro e q24 ⟨rfl, hb⟩
        rw [HCR.out]
        unfold dkV
        dsimp only
        have HUq24 := Lib.hid (HUq23.out.trans (hb.mono HUq23.out.size))
        have HX5q24 := Lib.hid (HX5q23.out.below hb)
        have HX6q24 := Lib.hid (HX6q23.out.below hb)
        refine ⟨_, rfl, HE1.out.below HUq24.out, ?_⟩
        simp only [Act.put, List.getElem_toArray, List.getElem_cons_zero, List.getElem_cons_succ, List.setIfInBounds_toArray, List.set_cons_zero, List.set_cons_succ]
        clear hb
        refine TillZ.one (i := 4) (by kernel_rfl) ?_
        refine TillZ.callz (i := 4) (f := 9) (args := #[.agg #[.string es, .string et]]) rfl rfl rfl (by go_simp) ?_
        refine Calls.mono (implSync_any es et q24 HSE.out) ?_
        rintro e q25 ⟨rfl, hb⟩
        rw [HSY.out]
        unfold dkV
        dsimp only
        have HUq25 := Lib.hid (HUq24.out.trans (hb.mono HUq24.out.size))
        have HX5q25 := Lib.hid (HX5q24.out.below hb)
        have HX6q25 := Lib.hid (HX6q24.out.below hb)
        refine ⟨_, rfl, HE1.out.below HUq25.out, ?_⟩
        simp only [Act.put, List.getElem_toArray, List.getElem_cons_zero, List.getElem_cons_succ, List.setIfInBounds_toArray, List.set_cons_zero, List.set_cons_succ]
        clear hb
        have y0 := HX5q25.out.cell 0 _ rfl
        have y1 := HX5q25.out.cell 1 _ rfl
        have f0 := HX5q25.out.free 0
        have f1 := HX5q25.out.free 1
        have ylt := HX5q25.out.lt
        have hne : u0.heap.size ≠ q17.heap.size := by have := HLTq23.out; omega
        obtain ⟨u9, h9⟩ : ∃ u9, u9 = (q25.setCell ⟨u0.heap.size, 0, none⟩ (.string cs)).setCell ⟨u0.heap.size, 1, none⟩ (.string ct) := ⟨_, rfl⟩
        have HX9 := Lib.hid (show BX u9 u0.heap.size [.string cs, .string ct] by rw [h9]; exact (HX5q25.out.set (j := 0) (by simp) _).set (j := 1) (by simp) _)
        have HY9 := Lib.hid (show BX u9 q17.heap.size [.string ⟨#[]⟩, .string ⟨#[]⟩] by rw [h9]; exact (HX6q25.out.other _ _ hne).other _ _ hne)
        have HU9 := Lib.hid (show Below V3.heap.size V3 u9 by rw [h9]; exact (HUq25.out.setCell (p := ⟨u0.heap.size, 0, none⟩) HNq17.out _).setCell (p := ⟨u0.heap.size, 1, none⟩) HNq17.out _)
        refine TillZ.one (i := 7) (by kernel_rfl) ?_
        refine TillZ.opz_skip (i := 7) (w' := u9) rfl rfl rfl (by rw [h9]; go_simp) (HE1.out.below HU9.out) ?_
        simp only [Act.put, List.getElem_toArray, List.getElem_cons_zero, List.getElem_cons_succ, List.setIfInBounds_toArray, List.set_cons_zero, List.set_cons_succ]
        clear y0 y1 f0 f1 ylt h9
        have y0 := HY9.out.cell 0 _ rfl
        have y1 := HY9.out.cell 1 _ rfl
        have f0 := HY9.out.free 0
        have f1 := HY9.out.free 1
        have ylt := HY9.out.lt
        refine TillZ.hand_skip (w' := (u9.setCell ⟨q17.heap.size, 0, none⟩ (.string ss)).setCell ⟨q17.heap.size, 1, none⟩ (.string st)) (by kernel_rfl) rfl rfl (by go_simp) ?_
        simp only [Act.put, List.getElem_toArray, List.getElem_cons_zero, List.getElem_cons_succ, List.setIfInBounds_toArray, List.set_cons_zero, List.set_cons_succ]
        refine TillZ.any_done (by kernel_rfl) ?_ _
        go_wp2_with fail
        go_meet
        case rel => exact ⟨u0.heap.size, q17.heap.size, rfl, rfl, (HX9.out.other _ _ (Ne.symm hne)).other _ _ (Ne.symm hne), (HY9.out.set (j := 0) (by simp) _).set (j := 1) (by simp) _, (HU9.out.setCell (p := ⟨q17.heap.size, 0, none⟩) HNq23.out _).setCell (p := ⟨q17.heap.size, 1, none⟩) HNq23.out _⟩
    · skip
      refine TillZ.opz (i := 6) (v := .pointer (some ⟨u0.heap.size, 0, none⟩)) (w' := u0.alloc (.cells #[.string ⟨#[]⟩, .string ⟨#[]⟩] 24)) rfl rfl rfl (by go_simp) (HE1.out.below (HU0.out.alloc HU0.out.size _)) ?_
      simp only [Act.put, List.getElem_toArray, List.getElem_cons_zero, List.getElem_cons_succ, List.setIfInBounds_toArray, List.set_cons_zero, List.set_cons_succ]
      have HUq26 := Lib.hid (HU0.out.alloc HU0.out.size (.cells #[.string ⟨#[]⟩, .string ⟨#[]⟩] 24))
      have HX6q26 := Lib.hid (BX.made u0 #[.string ⟨#[]⟩, .string ⟨#[]⟩] 24)
      have HNq26 := Lib.hid HU0.out.size
      generalize hwq26 : u0.alloc (.cells #[.string ⟨#[]⟩, .string ⟨#[]⟩] 24) = q26 at *
      clear hwq26
      refine TillZ.two (i := 2) (j := 5) (by kernel_rfl) ?_ ?_
      · skip
        refine TillZ.callz (i := 2) (f := 8) (args := #[.agg #[.string es, .string et], .int .i64 k]) rfl rfl rfl (by go_simp) ?_
        refine Calls.mono (implCrash_any es et k q26 HSE.out) ?_
        rintro e q27 ⟨rfl, hb⟩
        rw [HCR.out]
        unfold dkV
        dsimp only
        have HUq27 := Lib.hid (HUq26.out.trans (hb.mono HUq26.out.size))
        have HX6q27 := Lib.hid (HX6q26.out.below hb)
        refine ⟨_, rfl, HE1.out.below HUq27.out, ?_⟩
        simp only [Act.put, List.getElem_toArray, List.getElem_cons_zero, List.getElem_cons_succ, List.setIfInBounds_toArray, List.set_cons_zero, List.set_cons_succ]
        clear hb
        refine TillZ.two (i := 4) (j := 5) (by kernel_rfl) ?_ ?_
        · skip
          refine TillZ.callz (i := 4) (f := 9) (args := #[.agg #[.string es, .string et]]) rfl rfl rfl (by go_simp) ?_
          refine Calls.mono (implSync_any es et q27 HSE.out) ?_
          rintro e q28 ⟨rfl, hb⟩
          rw [HSY.out]
          unfold dkV
          dsimp only
          have HUq28 := Lib.hid (HUq27.out.trans (hb.mono HUq27.out.size))
          have HX6q28 := Lib.hid (HX6q27.out.below hb)
          refine ⟨_, rfl, HE1.out.below HUq28.out, ?_⟩
          simp only [Act.put, List.getElem_toArray, List.getElem_cons_zero, List.getElem_cons_succ, List.setIfInBounds_toArray, List.set_cons_zero, List.set_cons_succ]
          clear hb
          refine TillZ.one (i := 5) (by kernel_rfl) ?_
          refine TillZ.opz (i := 5) (v := .pointer (some ⟨q28.heap.size, 0, none⟩)) (w' := q28.alloc (.cells #[.string ⟨#[]⟩, .string ⟨#[]⟩] 24)) rfl rfl rfl (by go_simp) (HE1.out.below (HUq28.out.alloc HUq28.out.size _)) ?_
          simp only [Act.put, List.getElem_toArray, List.getElem_cons_zero, List.getElem_cons_succ, List.setIfInBounds_toArray, List.set_cons_zero, List.set_cons_succ]
          have HUq29 := Lib.hid (HUq28.out.alloc HUq28.out.size (.cells #[.string ⟨#[]⟩, .string ⟨#[]⟩] 24))
          have HX5q29 := Lib.hid (BX.made q28 #[.string ⟨#[]⟩, .string ⟨#[]⟩] 24)
          have HNq29 := Lib.hid HUq28.out.size
          have HX6q29 := Lib.hid (HX6q28.out.alloc (.cells #[.string ⟨#[]⟩, .string ⟨#[]⟩] 24))
          have HLTq29 := Lib.hid HX6q28.out.lt
          generalize hwq29 : q28.alloc (.cells #[.string ⟨#[]⟩, .string ⟨#[]⟩] 24) = q29 at *
          clear hwq29
          have y0 := HX5q29.out.cell 0 _ rfl
          have y1 := HX5q29.out.cell 1 _ rfl
          have f0 := HX5q29.out.free 0
          have f1 := HX5q29.out.free 1
          have ylt := HX5q29.out.lt
          have hne : q28.heap.size ≠ u0.heap.size := by have := HLTq29.out; omega
          obtain ⟨u9, h9⟩ : ∃ u9, u9 = (q29.setCell ⟨q28.heap.size, 0, none⟩ (.string cs)).setCell ⟨q28.heap.size, 1, none⟩ (.string ct) := ⟨_, rfl⟩
          have HX9 := Lib.hid (show BX u9 q28.heap.size [.string cs, .string ct] by rw [h9]; exact (HX5q29.out.set (j := 0) (by simp) _).set (j := 1) (by simp) _)
          have HY9 := Lib.hid (show BX u9 u0.heap.size [.string ⟨#[]⟩, .string ⟨#[]⟩] by rw [h9]; exact (HX6q29.out.other _ _ hne).other _ _ hne)
          have HU9 := Lib.hid (show Below V3.heap.size V3 u9 by rw [h9]; exact (HUq29.out.setCell (p := ⟨q28.heap.size, 0, none⟩) HNq29.out _).setCell (p := ⟨q28.heap.size, 1, none⟩) HNq29.out _)
          refine TillZ.one (i := 7) (by kernel_rfl) ?_
          refine TillZ.opz_skip (i := 7) (w' := u9) rfl rfl rfl (by rw [h9]; go_simp) (HE1.out.below HU9.out) ?_
          simp only [Act.put, List.getElem_toArray, List.getElem_cons_zero, List.getElem_cons_succ, List.setIfInBounds_toArray, List.set_cons_zero, List.set_cons_succ]
          clear y0 y1 f0 f1 ylt h9
          have y0 := HY9.out.cell 0 _ rfl
          have y1 := HY9.out.cell 1 _ rfl
          have f0 := HY9.out.free 0
          have f1 := HY9.out.free 1
          have ylt := HY9.out.lt
          refine TillZ.hand_skip (w' := (u9.setCell ⟨u0.heap.size, 0, none⟩ (.string ss)).setCell ⟨u0.heap.size, 1, none⟩ (.string st)) (by kernel_rfl) rfl rfl (by go_simp) ?_
          simp only [Act.put, List.getElem_toArray, List.getElem_cons_zero, List.getElem_cons_succ, List.setIfInBounds_toArray, List.set_cons_zero, List.set_cons_succ]
          refine TillZ.any_done (by kernel_rfl) ?_ _
          go_wp2_with fail
          go_meet
          case rel => exact ⟨q28.heap.size, u0.heap.size, rfl, rfl, (HX9.out.other _ _ (Ne.symm hne)).other _ _ (Ne.symm hne), (HY9.out.set (j := 0) (by simp) _).set (j := 1) (by simp) _, (HU9.out.setCell (p := ⟨u0.heap.size, 0, none⟩) HNq26.out _).setCell (p := ⟨u0.heap.size, 1, none⟩) HNq26.out _⟩
        · skip
          refine TillZ.opz (i := 5) (v := .pointer (some ⟨q27.heap.size, 0, none⟩)) (w' := q27.alloc (.cells #[.string ⟨#[]⟩, .string ⟨#[]⟩] 24)) rfl rfl rfl (by go_simp) (HE1.out.below (HUq27.out.alloc HUq27.out.size _)) ?_
          simp only [Act.put, List.getElem_toArray, List.getElem_cons_zero, List.getElem_cons_succ, List.setIfInBounds_toArray, List.set_cons_zero, List.set_cons_succ]
          have HUq30 := Lib.hid (HUq27.out.alloc HUq27.out.size (.cells #[.string ⟨#[]⟩, .string ⟨#[]⟩] 24))
          have HX5q30 := Lib.hid (BX.made q27 #[.string ⟨#[]⟩, .string ⟨#[]⟩] 24)
          have HNq30 := Lib.hid HUq27.out.size
          have HX6q30 := Lib.hid (HX6q27.out.alloc (.cells #[.string ⟨#[]⟩, .string ⟨#[]⟩] 24))
          have HLTq30 := Lib.hid HX6q27.out.lt
          generalize hwq30 : q27.alloc (.cells #[.string ⟨#[]⟩, .string ⟨#[]⟩] 24) = q30 at *
          clear hwq30
          refine TillZ.one (i := 4) (by kernel_rfl) ?_
          refine TillZ.callz (i := 4) (f := 9) (args := #[.agg #[.string es, .string et]]) rfl rfl rfl (by go_simp) ?_
          refine Calls.mono (implSync_any es et q30 HSE.out) ?_
          rintro e q31 ⟨rfl, hb⟩
          rw [HSY.out]
          unfold dkV
          dsimp only
          have HUq31 := Lib.hid (HUq30.out.trans (hb.mono HUq30.out.size))
          have HX5q31 := Lib.hid (HX5q30.out.below hb)
          have HX6q31 := Lib.hid (HX6q30.out.below hb)
          refine ⟨_, rfl, HE1.out.below HUq31.out, ?_⟩
          simp only [Act.put, List.getElem_toArray, List.getElem_cons_zero, List.getElem_cons_succ, List.setIfInBounds_toArray, List.set_cons_zero, List.set_cons_succ]
          clear hb
          have y0 := HX5q31.out.cell 0 _ rfl
          have y1 := HX5q31.out.cell 1 _ rfl
          have f0 := HX5q31.out.free 0
          have f1 := HX5q31.out.free 1
          have ylt := HX5q31.out.lt
          have hne : q27.heap.size ≠ u0.heap.size := by have := HLTq30.out; omega
          obtain ⟨u9, h9⟩ : ∃ u9, u9 = (q31.setCell ⟨q27.heap.size, 0, none⟩ (.string cs)).setCell ⟨q27.heap.size, 1, none⟩ (.string ct) := ⟨_, rfl⟩
          have HX9 := Lib.hid (show BX u9 q27.heap.size [.string cs, .string ct] by rw [h9]; exact (HX5q31.out.set (j := 0) (by simp) _).set (j := 1) (by simp) _)
          have HY9 := Lib.hid (show BX u9 u0.heap.size [.string ⟨#[]⟩, .string ⟨#[]⟩] by rw [h9]; exact (HX6q31.out.other _ _ hne).other _ _ hne)
          have HU9 := Lib.hid (show Below V3.heap.size V3 u9 by rw [h9]; exact (HUq31.out.setCell (p := ⟨q27.heap.size, 0, none⟩) HNq30.out _).setCell (p := ⟨q27.heap.size, 1, none⟩) HNq30.out _)
          refine TillZ.one (i := 7) (by kernel_rfl) ?_
          refine TillZ.opz_skip (i := 7) (w' := u9) rfl rfl rfl (by rw [h9]; go_simp) (HE1.out.below HU9.out) ?_
          simp only [Act.put, List.getElem_toArray, List.getElem_cons_zero, List.getElem_cons_succ, List.setIfInBounds_toArray, List.set_cons_zero, List.set_cons_succ]
          clear y0 y1 f0 f1 ylt h9
          have y0 := HY9.out.cell 0 _ rfl
          have y1 := HY9.out.cell 1 _ rfl
          have f0 := HY9.out.free 0
          have f1 := HY9.out.free 1
          have ylt := HY9.out.lt
          refine TillZ.hand_skip (w' := (u9.setCell ⟨u0.heap.size, 0, none⟩ (.string ss)).setCell ⟨u0.heap.size, 1, none⟩ (.string st)) (by kernel_rfl) rfl rfl (by go_simp) ?_
          simp only [Act.put, List.getElem_toArray, List.getElem_cons_zero, List.getElem_cons_succ, List.setIfInBounds_toArray, List.set_cons_zero, List.set_cons_succ]
          refine TillZ.any_done (by kernel_rfl) ?_ _
          go_wp2_with fail
          go_meet
          case rel => exact ⟨q27.heap.size, u0.heap.size, rfl, rfl, (HX9.out.other _ _ (Ne.symm hne)).other _ _ (Ne.symm hne), (HY9.out.set (j := 0) (by simp) _).set (j := 1) (by simp) _, (HU9.out.setCell (p := ⟨u0.heap.size, 0, none⟩) HNq26.out _).setCell (p := ⟨u0.heap.size, 1, none⟩) HNq26.out _⟩
      · skip
        refine TillZ.opz (i := 5) (v := .pointer (some ⟨q26.heap.size, 0, none⟩)) (w' := q26.alloc (.cells #[.string ⟨#[]⟩, .string ⟨#[]⟩] 24)) rfl rfl rfl (by go_simp) (HE1.out.below (HUq26.out.alloc HUq26.out.size _)) ?_
        simp only [Act.put, List.getElem_toArray, List.getElem_cons_zero, List.getElem_cons_succ, List.setIfInBounds_toArray, List.set_cons_zero, List.set_cons_succ]
        have HUq32 := Lib.hid (HUq26.out.alloc HUq26.out.size (.cells #[.string ⟨#[]⟩, .string ⟨#[]⟩] 24))
        have HX5q32 := Lib.hid (BX.made q26 #[.string ⟨#[]⟩, .string ⟨#[]⟩] 24)
        have HNq32 := Lib.hid HUq26.out.size
        have HX6q32 := Lib.hid (HX6q26.out.alloc (.cells #[.string ⟨#[]⟩, .string ⟨#[]⟩] 24))
        have HLTq32 := Lib.hid HX6q26.out.lt
        generalize hwq32 : q26.alloc (.cells #[.string ⟨#[]⟩, .string ⟨#[]⟩] 24) = q32 at *
        clear hwq32
        refine TillZ.one (i := 2) (by kernel_rfl) ?_
        refine TillZ.callz (i := 2) (f := 8) (args := #[.agg #[.string es, .string et], .int .i64 k]) rfl rfl rfl (by go_simp) ?_
        refine Calls.mono (implCrash_any es et k q32 HSE.out) ?_
        rintro e q33 ⟨rfl, hb⟩
        rw [HCR.out]
        unfold dkV
        dsimp only
        have HUq33 := Lib.hid (HUq32.out.trans (hb.mono HUq32.out.size))
        have HX5q33 := Lib.hid (HX5q32.out.below hb)
        have HX6q33 := Lib.hid (HX6q32.out.below hb)
        refine ⟨_, rfl, HE1.out.below HUq33.out, ?_⟩
        simp only [Act.put, List.getElem_toArray, List.getElem_cons_zero, List.getElem_cons_succ, List.setIfInBounds_toArray, List.set_cons_zero, List.set_cons_succ]
        clear hb
        refine TillZ.one (i := 4) (by kernel_rfl) ?_
        refine TillZ.callz (i := 4) (f := 9) (args := #[.agg #[.string es, .string et]]) rfl rfl rfl (by go_simp) ?_
        refine Calls.mono (implSync_any es et q33 HSE.out) ?_
        rintro e q34 ⟨rfl, hb⟩
        rw [HSY.out]
        unfold dkV
        dsimp only
        have HUq34 := Lib.hid (HUq33.out.trans (hb.mono HUq33.out.size))
        have HX5q34 := Lib.hid (HX5q33.out.below hb)
        have HX6q34 := Lib.hid (HX6q33.out.below hb)
        refine ⟨_, rfl, HE1.out.below HUq34.out, ?_⟩
        simp only [Act.put, List.getElem_toArray, List.getElem_cons_zero, List.getElem_cons_succ, List.setIfInBounds_toArray, List.set_cons_zero, List.set_cons_succ]
        clear hb
        have y0 := HX5q34.out.cell 0 _ rfl
        have y1 := HX5q34.out.cell 1 _ rfl
        have f0 := HX5q34.out.free 0
        have f1 := HX5q34.out.free 1
        have ylt := HX5q34.out.lt
        have hne : q26.heap.size ≠ u0.heap.size := by have := HLTq32.out; omega
        obtain ⟨u9, h9⟩ : ∃ u9, u9 = (q34.setCell ⟨q26.heap.size, 0, none⟩ (.string cs)).setCell ⟨q26.heap.size, 1, none⟩ (.string ct) := ⟨_, rfl⟩
        have HX9 := Lib.hid (show BX u9 q26.heap.size [.string cs, .string ct] by rw [h9]; exact (HX5q34.out.set (j := 0) (by simp) _).set (j := 1) (by simp) _)
        have HY9 := Lib.hid (show BX u9 u0.heap.size [.string ⟨#[]⟩, .string ⟨#[]⟩] by rw [h9]; exact (HX6q34.out.other _ _ hne).other _ _ hne)
        have HU9 := Lib.hid (show Below V3.heap.size V3 u9 by rw [h9]; exact (HUq34.out.setCell (p := ⟨q26.heap.size, 0, none⟩) HNq32.out _).setCell (p := ⟨q26.heap.size, 1, none⟩) HNq32.out _)
        refine TillZ.one (i := 7) (by kernel_rfl) ?_
        refine TillZ.opz_skip (i := 7) (w' := u9) rfl rfl rfl (by rw [h9]; go_simp) (HE1.out.below HU9.out) ?_
        simp only [Act.put, List.getElem_toArray, List.getElem_cons_zero, List.getElem_cons_succ, List.setIfInBounds_toArray, List.set_cons_zero, List.set_cons_succ]
        clear y0 y1 f0 f1 ylt h9
        have y0 := HY9.out.cell 0 _ rfl
        have y1 := HY9.out.cell 1 _ rfl
        have f0 := HY9.out.free 0
        have f1 := HY9.out.free 1
        have ylt := HY9.out.lt
        refine TillZ.hand_skip (w' := (u9.setCell ⟨u0.heap.size, 0, none⟩ (.string ss)).setCell ⟨u0.heap.size, 1, none⟩ (.string st)) (by kernel_rfl) rfl rfl (by go_simp) ?_
        simp only [Act.put, List.getElem_toArray, List.getElem_cons_zero, List.getElem_cons_succ, List.setIfInBounds_toArray, List.set_cons_zero, List.set_cons_succ]
        refine TillZ.any_done (by kernel_rfl) ?_ _
        go_wp2_with fail
        go_meet
        case rel => exact ⟨q26.heap.size, u0.heap.size, rfl, rfl, (HX9.out.other _ _ (Ne.symm hne)).other _ _ (Ne.symm hne), (HY9.out.set (j := 0) (by simp) _).set (j := 1) (by simp) _, (HU9.out.setCell (p := ⟨u0.heap.size, 0, none⟩) HNq26.out _).setCell (p := ⟨u0.heap.size, 1, none⟩) HNq26.out _⟩
  case rest =>
    obtain ⟨n4, n5, rfl, rfl, hX, hY, hU⟩ := hcut
    have HB6 := Lib.hid (HBV3.out.trans (hU.mono HBV3.out.size))
    obtain ⟨n1, hn1⟩ : ∃ n1, n1 = v1.heap.size := ⟨_, rfl⟩
    obtain ⟨n2, hn2⟩ : ∃ n2, n2 = v2.heap.size := ⟨_, rfl⟩
    rw [← hn1] at HD5 ⊢
    rw [← hn2] at HX5 ⊢
    have HS0 : Hid (∀ u, Below wc.heap.size wc u → (BX u n1 [.string s, .string t] ∧ BX u n2 [.string xs, .string xt, .int .i64 xc] ∧ BX u n3 [.string es, .string et] ∧ BX u n4 [.string cs, .string ct] ∧ BX u n5 [.string ss, .string st])) := Lib.hid (fun u hu => ⟨(HD5.out.below hU).below hu, (HX5.out.below hU).below hu, (HE1.out.below hU).below hu, hX.below hu, hY.below hu⟩)
    have HSA : Hid (∀ z : World, Calls Tryd.prog 10 #[.agg #[.string s, .string t], .string b] z fun e w' => e = .returned (.agg #[.string xs, .string xt, .int .i64 xc]) ∧ Below z.heap.size z w') := Lib.hid (fun z => by
      have hc := specAppend_any s t b z HSZ.out.1 HSZ.out.2
      rw [HA.out] at hc
      exact hc)
    have HSC : Hid (∀ z : World, Calls Tryd.prog 11 #[.agg #[.string es, .string et], .int .i64 k] z fun e w' => e = .returned (.agg #[.string cs, .string ct]) ∧ Below z.heap.size z w') := Lib.hid (fun z => by
      have hc := specCrash_any es et k z HSE.out
      rw [HCR.out] at hc
      exact hc)
    have HSS : Hid (∀ z : World, Calls Tryd.prog 12 #[.agg #[.string es, .string et]] z fun e w' => e = .returned (.agg #[.string ss, .string st]) ∧ Below z.heap.size z w') := Lib.hid (fun z => by
      have hc := specSync_any es et z HSE.out
      rw [HSY.out] at hc
      exact hc)
    obtain ⟨rb, hrb⟩ : ∃ rb, rb = decide (s.size + t.size ≤ 3000) := ⟨_, rfl⟩
    have HIR : Hid (∀ z : World, Calls Tryd.prog 13 #[.agg #[.string s, .string t]] z fun e w' => e = .returned (.bool rb) ∧ Below z.heap.size z w') := Lib.hid (fun z => by
      rw [hrb]
      exact implDiskRight_any s t z (by have := HSZ.out; omega))
    have HSR : Hid (∀ z : World, Calls Tryd.prog 14 #[.agg #[.string s, .string t]] z fun e w' => e = .returned (.bool rb) ∧ Below z.heap.size z w') := Lib.hid (fun z => by
      rw [hrb]
      exact specDiskRight_any s t z (by have := HSZ.out; omega))
    obtain ⟨F, hF⟩ : ∃ F : World → Prop, F = fun z => Below wc.heap.size wc z := ⟨_, rfl⟩
    have FB : Hid (∀ z z', F z → Below z.heap.size z z' → F z') := Lib.hid (by rw [hF]; exact fun z z' h1 h2 => h1.trans (h2.mono h1.size))
    have gS : Hid (∀ z, F z → F z ∧ z.cell? ⟨n1, 0, none⟩ = some (.string s) ∧ z.cell? ⟨n1, 1, none⟩ = some (.string t) ∧ z.cell? ⟨n2, 0, none⟩ = some (.string xs) ∧ z.cell? ⟨n2, 1, none⟩ = some (.string xt) ∧ z.cell? ⟨n2, 2, none⟩ = some (.int .i64 xc) ∧ z.cell? ⟨n3, 0, none⟩ = some (.string es) ∧ z.cell? ⟨n3, 1, none⟩ = some (.string et) ∧ z.cell? ⟨n4, 0, none⟩ = some (.string cs) ∧ z.cell? ⟨n4, 1, none⟩ = some (.string ct) ∧ z.cell? ⟨n5, 0, none⟩ = some (.string ss) ∧ z.cell? ⟨n5, 1, none⟩ = some (.string st)) := Lib.hid (fun z hz => by
      have hz' := hz
      rw [hF] at hz'
      obtain ⟨h1, h2, h3, h4, h5⟩ := HS0.out z hz'
      exact ⟨hz, h1.cell 0 _ rfl, h1.cell 1 _ rfl, h2.cell 0 _ rfl, h2.cell 1 _ rfl, h2.cell 2 _ rfl, h3.cell 0 _ rfl, h3.cell 1 _ rfl, h4.cell 0 _ rfl, h4.cell 1 _ rfl, h5.cell 0 _ rfl, h5.cell 1 _ rfl⟩)
    have gB : Hid (∀ z, F z → Below w.heap.size w z) := Lib.hid (by rw [hF]; exact fun z hz => HB6.out.trans (hz.mono HB6.out.size))
    have hFn : F wc.drew := by rw [hF]; exact (Below.refl _ _).drew
    clear hF hrb hn1 hn2 hX hY hU HD5 HX5 HE1 HBV3
    go_wp2_with fail
    go_region_held3 (fun z => F z ∧ z.cell? ⟨n1, 0, none⟩ = some (.string s) ∧ z.cell? ⟨n1, 1, none⟩ = some (.string t) ∧ z.cell? ⟨n2, 0, none⟩ = some (.string xs) ∧ z.cell? ⟨n2, 1, none⟩ = some (.string xt) ∧ z.cell? ⟨n2, 2, none⟩ = some (.int .i64 xc) ∧ z.cell? ⟨n3, 0, none⟩ = some (.string es) ∧ z.cell? ⟨n3, 1, none⟩ = some (.string et) ∧ z.cell? ⟨n4, 0, none⟩ = some (.string cs) ∧ z.cell? ⟨n4, 1, none⟩ = some (.string ct) ∧ z.cell? ⟨n5, 0, none⟩ = some (.string ss) ∧ z.cell? ⟨n5, 1, none⟩ = some (.string st)) (exact gS.out _ hFn)
      (first
        | (go_at_call 10; refine Calls.mono (HSA.out _) ?_; rintro e w1 ⟨rfl, hb⟩; have hFn := FB.out _ _ hFn hb)
        | (go_at_call 11; refine Calls.mono (HSC.out _) ?_; rintro e w1 ⟨rfl, hb⟩; have hFn := FB.out _ _ hFn hb)
        | (go_at_call 12; refine Calls.mono (HSS.out _) ?_; rintro e w1 ⟨rfl, hb⟩; have hFn := FB.out _ _ hFn hb)
        | (go_at_call 13; refine Calls.mono (HIR.out _) ?_; rintro e w1 ⟨rfl, hb⟩; have hFn := FB.out _ _ hFn hb)
        | (go_at_call 14; refine Calls.mono (HSR.out _) ?_; rintro e w1 ⟨rfl, hb⟩; have hFn := FB.out _ _ hFn hb))
    all_goals
      clear HSA HSC HSS HIR HSR
      obtain ⟨_, q1, q2, q3, q4, q5, q6, q7, q8, q9, q10, q11⟩ := gS.out _ hFn
      have F1 := Lib.hid hFn
      clear hFn
      by_cases hx : xc = 0
      · subst hx
        obtain ⟨rfl, rfl⟩ := dkAppend_zero HA.out
        have hsm : ¬ 9223372036854775807 < t.size + b.size := by have := HSZ.out; omega
        go_wp2_with fail
        refine (specDiskRight_any es et _ (by have := HSE.out; omega)).mono ?_
        rintro e w2 ⟨rfl, hb⟩
        have F2 := Lib.hid (FB.out _ _ F1.out hb)
        clear hb q1 q2 q3 q4 q5 q6 q7 q8 q9 q10 q11
        by_cases hr : es.size + et.size ≤ 3000
        · rw [decide_eq_true hr]
          obtain ⟨rfl, rfl, rfl, c1, c2, c3, c4⟩ := crash_facts hr HCR.out HSY.out
          obtain ⟨_, q1, q2, q3, q4, q5, q6, q7, q8, q9, q10, q11⟩ := gS.out _ F2.out
          have HC4 := Lib.hid c4
          have d1 : (es.size : Int) ≤ (cs.size : Int) := by omega
          have d2 : (cs.size : Int) ≤ (es.size : Int) + (et.size : Int) := by omega
          have hsm2 : ¬ 9223372036854775807 < es.size + et.size := by omega
          have hsz2 : (es ++ et).size + 0 ≤ 1048576 := by rw [ByteArray.size_append]; omega
          have HCZ : Hid (∀ z : World, Calls Tryd.prog 8 #[.agg #[.string (es ++ et), .string ⟨#[]⟩], .int .i64 0] z fun e w' => e = .returned (.agg #[.string (es ++ et), .string ⟨#[]⟩]) ∧ Below z.heap.size z w') := Lib.hid (fun z => by
            have hc := implCrash_any (es ++ et) ⟨#[]⟩ 0 z hsz2
            rw [HC4.out] at hc
            exact hc)
          have gT : Hid (∀ z, F z → F z ∧ z.cell? ⟨n3, 0, none⟩ = some (.string es) ∧ z.cell? ⟨n3, 1, none⟩ = some (.string et) ∧ z.cell? ⟨n4, 0, none⟩ = some (.string cs) ∧ z.cell? ⟨n4, 1, none⟩ = some (.string ⟨#[]⟩) ∧ z.cell? ⟨n5, 0, none⟩ = some (.string (es ++ et)) ∧ z.cell? ⟨n5, 1, none⟩ = some (.string ⟨#[]⟩)) := Lib.hid (fun z hz => by
            obtain ⟨p0, p1, p2, p3, p4, p5, p6, p7, p8, p9, p10, p11⟩ := gS.out z hz
            exact ⟨p0, p6, p7, p8, p9, p10, p11⟩)
          have hFn := FB.out _ _ F2.out (Below.refl _ _).drew
          clear c4 hsz2
          go_wp2_with fail
          go_region_held3 (fun z => F z ∧ z.cell? ⟨n3, 0, none⟩ = some (.string es) ∧ z.cell? ⟨n3, 1, none⟩ = some (.string et) ∧ z.cell? ⟨n4, 0, none⟩ = some (.string cs) ∧ z.cell? ⟨n4, 1, none⟩ = some (.string ⟨#[]⟩) ∧ z.cell? ⟨n5, 0, none⟩ = some (.string (es ++ et)) ∧ z.cell? ⟨n5, 1, none⟩ = some (.string ⟨#[]⟩)) (exact gT.out _ hFn)
            (first
              | (go_at_call 8; refine Calls.mono (HCZ.out _) ?_; rintro e w3 ⟨rfl, hb⟩; have hFn := FB.out _ _ hFn hb))
          all_goals
            have F3 := Lib.hid hFn
            clear hFn
            go_wp2_with fail
            go_ret
            exact ⟨rfl, gB.out _ F3.out⟩
        · rw [decide_eq_false hr]
          go_wp2_with fail
          go_ret
          exact ⟨rfl, gB.out _ F2.out⟩
      · have hx1 : (xc == 0) = false := by simp [hx]
        go_wp2_with fail
        refine (specDiskRight_any es et _ (by have := HSE.out; omega)).mono ?_
        rintro e w2 ⟨rfl, hb⟩
        have F2 := Lib.hid (FB.out _ _ F1.out hb)
        clear hb q1 q2 q3 q4 q5 q6 q7 q8 q9 q10 q11
        by_cases hr : es.size + et.size ≤ 3000
        · rw [decide_eq_true hr]
          obtain ⟨rfl, rfl, rfl, c1, c2, c3, c4⟩ := crash_facts hr HCR.out HSY.out
          obtain ⟨_, q1, q2, q3, q4, q5, q6, q7, q8, q9, q10, q11⟩ := gS.out _ F2.out
          have HC4 := Lib.hid c4
          have d1 : (es.size : Int) ≤ (cs.size : Int) := by omega
          have d2 : (cs.size : Int) ≤ (es.size : Int) + (et.size : Int) := by omega
          have hsm2 : ¬ 9223372036854775807 < es.size + et.size := by omega
          have hsz2 : (es ++ et).size + 0 ≤ 1048576 := by rw [ByteArray.size_append]; omega
          have HCZ : Hid (∀ z : World, Calls Tryd.prog 8 #[.agg #[.string (es ++ et), .string ⟨#[]⟩], .int .i64 0] z fun e w' => e = .returned (.agg #[.string (es ++ et), .string ⟨#[]⟩]) ∧ Below z.heap.size z w') := Lib.hid (fun z => by
            have hc := implCrash_any (es ++ et) ⟨#[]⟩ 0 z hsz2
            rw [HC4.out] at hc
            exact hc)
          have gT : Hid (∀ z, F z → F z ∧ z.cell? ⟨n3, 0, none⟩ = some (.string es) ∧ z.cell? ⟨n3, 1, none⟩ = some (.string et) ∧ z.cell? ⟨n4, 0, none⟩ = some (.string cs) ∧ z.cell? ⟨n4, 1, none⟩ = some (.string ⟨#[]⟩) ∧ z.cell? ⟨n5, 0, none⟩ = some (.string (es ++ et)) ∧ z.cell? ⟨n5, 1, none⟩ = some (.string ⟨#[]⟩)) := Lib.hid (fun z hz => by
            obtain ⟨p0, p1, p2, p3, p4, p5, p6, p7, p8, p9, p10, p11⟩ := gS.out z hz
            exact ⟨p0, p6, p7, p8, p9, p10, p11⟩)
          have hFn := FB.out _ _ F2.out (Below.refl _ _).drew
          clear c4 hsz2
          go_wp2_with fail
          go_region_held3 (fun z => F z ∧ z.cell? ⟨n3, 0, none⟩ = some (.string es) ∧ z.cell? ⟨n3, 1, none⟩ = some (.string et) ∧ z.cell? ⟨n4, 0, none⟩ = some (.string cs) ∧ z.cell? ⟨n4, 1, none⟩ = some (.string ⟨#[]⟩) ∧ z.cell? ⟨n5, 0, none⟩ = some (.string (es ++ et)) ∧ z.cell? ⟨n5, 1, none⟩ = some (.string ⟨#[]⟩)) (exact gT.out _ hFn)
            (first
              | (go_at_call 8; refine Calls.mono (HCZ.out _) ?_; rintro e w3 ⟨rfl, hb⟩; have hFn := FB.out _ _ hFn hb))
          all_goals
            have F3 := Lib.hid hFn
            clear hFn
            go_wp2_with fail
            go_ret
            exact ⟨rfl, gB.out _ F3.out⟩
        · rw [decide_eq_false hr]
          go_wp2_with fail
          go_ret
          exact ⟨rfl, gB.out _ F2.out⟩

/-! ### THE ROW's STEP -/
set_option maxRecDepth 100000 in
theorem contract (H : Type) (enc : TypeId × Value → H) (W : World) (base : Nat) (args : Array Value) (ds gs : List (DataW H)) (before : List MemPlace)
    (hval0 : ∀ (j : Nat) t v, Tryd.f3.params[j]? = some t → args[j]? = some v → Value.okWide Tryd.prog W .any base t v)
    (hW : DataW.Whole enc Tryd.prog Tryd.f3.params.toList Rows.fnDiskSpec.vars false W args.toList ds gs before) (hL : laidMetH Tryd.prog laidL W) :
    Calls Tryd.prog 3 args W fun e W' => ∃ v, e = .returned v ∧ Rows.fnDiskSpec.post enc Tryd.prog Tryd.f3 false true false false W args v W' := by
  have hval : ∀ (j : Nat) t v, Tryd.f3.params[j]? = some t → args[j]? = some v → Value.okWide Tryd.prog W .any base t v := hval0
  have hW' := hW
  obtain ⟨p, q, hA0, hV0, rfl, hfz, hnd⟩ := hW
  have hA : DataW.TrodAll enc Tryd.prog W 0 (fun _ => true) true Tryd.f3.params.toList args.toList ds p := hA0
  have hV : DataW.TrodVars enc Tryd.prog W (fun _ => true) ["loop.example/g00839/impl.errLong", "loop.example/g00839/impl.errWrong", "loop.example/g00839/impl.errFull"] gs q := hV0
  rw [Tryd.params3] at hA hval
  obtain ⟨v0, vs0, d0, ds0, p0, q_0, hargs0, rfl, rfl, h0, r0⟩ := trodAll_cons hA
  obtain ⟨v1, vs1, d1, ds1, p1, q_1, hargs1, rfl, rfl, h1, r1⟩ := trodAll_cons r0
  obtain ⟨rfl, rfl, rfl⟩ := trodAll_nil r1
  obtain rfl : args = #[v0, v1] := by cases args; simp_all
  obtain ⟨e0, e1, e2, x0, x1, x2, hds⟩ := sent3 hL
  obtain ⟨rfl, rfl⟩ := hV.unique (vr3 enc x0 x1 x2 _)
  obtain ⟨a0, len0, cap0, rfl⟩ := okWide_slice Tryd.underlying22 (hval 0 22 v0 rfl rfl)
  have k0 := h0
  have lt0 : ∀ x ∈ p0, x.block < W.heap.size := by obtain ⟨m, hm⟩ := k0; exact DataW.trod_lt m _ _ _ hm
  obtain ⟨z0, w0⟩ : ∃ zs, IsRow .u8 W a0 len0 cap0 zs := by
    obtain ⟨fuel, hf⟩ := h0
    rcases open_ints Tryd.underlying22 Tryd.underlying5 (by kernel_rfl) hf with ⟨hcs, _⟩ | ⟨x, l, c, zs, hcs, _, hl, hm, hz, _, hcell, hwz⟩
    · simp [Value.cells] at hcs
      obtain ⟨rfl, rfl, rfl⟩ := hcs
      exact ⟨[], .inl ⟨rfl, rfl, rfl, rfl⟩⟩
    · simp [Value.cells] at hcs
      obtain ⟨rfl, rfl, rfl⟩ := hcs
      exact ⟨zs, .inr ⟨_, rfl, hl, hm, by simpa using hz, hcell, hwz⟩⟩
  obtain ⟨a1, len1, cap1, rfl⟩ := okWide_slice Tryd.underlying22 (hval 1 22 v1 rfl rfl)
  have k1 := h1
  have lt1 : ∀ x ∈ p1, x.block < W.heap.size := by obtain ⟨m, hm⟩ := k1; exact DataW.trod_lt m _ _ _ hm
  obtain ⟨z1, w1⟩ : ∃ zs, IsRow .u8 W a1 len1 cap1 zs := by
    obtain ⟨fuel, hf⟩ := h1
    rcases open_ints Tryd.underlying22 Tryd.underlying5 (by kernel_rfl) hf with ⟨hcs, _⟩ | ⟨x, l, c, zs, hcs, _, hl, hm, hz, _, hcell, hwz⟩
    · simp [Value.cells] at hcs
      obtain ⟨rfl, rfl, rfl⟩ := hcs
      exact ⟨[], .inl ⟨rfl, rfl, rfl, rfl⟩⟩
    · simp [Value.cells] at hcs
      obtain ⟨rfl, rfl, rfl⟩ := hcs
      exact ⟨zs, .inr ⟨_, rfl, hl, hm, by simpa using hz, hcell, hwz⟩⟩
  clear hA0 hV0 hval0
  refine (walk a0 len0 cap0 z0 a1 len1 cap1 z1 W w0 w1 e0 e1 e2 hds).mono fun e W' ⟨he, hg⟩ => ?_
  subst he
  exact ⟨_, rfl, _, _, _, [], _, [.cell 0 0, .cell 1 0, .cell 2 0], hW', trodAll_mk1 (shut_bool Tryd.underlying4 _), (trodAll_cons_mk (Below.trod laidOut (by kernel_rfl) (of_decide_eq_true (by kernel_rfl)) k0 hg lt0) (trodAll_cons_mk (Below.trod laidOut (by kernel_rfl) (of_decide_eq_true (by kernel_rfl)) k1 hg lt1) trodAll_mk0)), vr3 enc (var_below x0 hg) (var_below x1 hg) (var_below x2 hg) _, hg.frame _, fun h => by cases h⟩
theorem reads (os : Os) {H : Type} (enc : TypeId × Value → H) : ∃ places, DataW.whole enc Tryd.prog ((laidWorld os).forCall (fun _ _ => 0) ⟨#[], #[Value.slice none 0 0, Value.slice none 0 0], []⟩).memory Tryd.f3.params.toList Rows.fnDiskSpec.vars false (#[Value.slice none 0 0, Value.slice none 0 0] : Array Value).toList 8 = some ([.nil, .nil], [tok enc (.iface 85 (.pointer (some ⟨low, 0, none⟩))), tok enc (.iface 85 (.pointer (some ⟨low + 1, 0, none⟩))), tok enc (.iface 85 (.pointer (some ⟨low + 2, 0, none⟩)))], places) :=
  ⟨[.cell 0 0, .cell 1 0, .cell 2 0], by kernel_rfl⟩
set_option maxRecDepth 100000 in
theorem lifted (os : Os) (started : os.Started) (H : Type) (enc : TypeId × Value → H) (F : Stop.Interp) :
    ReturnsInHanded {} Tryd.checked os 3 .any ((OpenSpec.ofChange Rows.fnDiskSpec).preRow enc Tryd.prog Tryd.f3 Rows.fnDiskRow.domain false Rows.fnDiskRow.laid) (((OpenSpec.ofChange Rows.fnDiskSpec).at F).post enc Tryd.prog Tryd.f3 false true false false) := by
  obtain ⟨places, hx⟩ := reads os enc
  refine returnsInHanded_of_row (C := Tryd.checked) (s := OpenSpec.ofChange Rows.fnDiskSpec) door_own started (by kernel_rfl) Tryd.func3
    (witness_row_at (enc := enc) (C := Tryd.checked) false (laidWorld os) #[Value.slice none 0 0, Value.slice none 0 0] rfl (by kernel_rfl) (by kernel_rfl) (by kernel_rfl)
      (OpenSpec.preRow_of_cond 8 hx (by kernel_rfl) (fun k hk => by cases hk) (by kernel_rfl) (laidWorld_met os _))) ?_
  intro W base args ds gs before hval hW _ _ _ hL _ _
  exact contract H enc W base args ds gs before hval hW hL
theorem said : Rows.FnDiskSaid :=
  OpenClaim.holds_of_cond 3 Tryd.f3 rfl rfl rfl rfl rfl rfl rfl ⟨rfl, rfl, rfl, rfl, rfl⟩ rfl rfl rfl rfl rfl (by kernel_rfl) Tryd.func3 (by kernel_rfl)
    (of_decide_eq_true (by kernel_rfl)) (by unfold Func.isWrapper; first | (rw [if_pos (by decide +kernel)]; kernel_rfl) | (rw [if_neg (by decide +kernel)]; exact ⟨rfl, rfl⟩))
    (fun os started H enc _ F => by rw [OpenClaim.pre_eq_preRow]; exact lifted os started H enc F)
theorem plain (f : FuncId) (fn : Func) (hf : Tryd.pinned.checked.prog.funcNamed "loop.example/g00839/laws.FnDisk" = some f) (hfn : Tryd.pinned.checked.prog.funcs[f]? = some fn) :
    true = Tryd.pinned.checked.prog.looks [] ∧ ∀ (j : Nat) t, fn.params[j]? = some t → Tryd.pinned.checked.prog.wantsStandIn t = false := by
  obtain rfl : f = 3 := Option.some.inj ((show Tryd.prog.funcNamed "loop.example/g00839/laws.FnDisk" = some 3 by kernel_rfl).symm.trans hf) |>.symm
  obtain rfl : fn = Tryd.f3 := (Option.some.inj (Tryd.func3.symm.trans hfn)).symm
  refine ⟨by kernel_rfl, fun j t ht => ?_⟩
  rw [Tryd.params3] at ht
  have h : t = 22 := by simpa using Array.mem_of_getElem? ht
  subst h
  exact (show Tryd.prog.wantsStandIn 22 = false by kernel_rfl)

/-- The statement: the card, tied to the program's text. -/
theorem proved : Rows.FnDiskCardSaid :=
  Claim7.holds_tied_plain_at .later [] _ _ _ _ said (fun _ h => by cases h) (by kernel_rfl) (fun _ h => by cases h) fnDisk_row_tie rfl ⟨rfl, rfl⟩ (by kernel_rfl) rfl plain (by kernel_rfl)
end Go.Proofs.YtnoefpkhbllmiaaDoor.fnDisk
