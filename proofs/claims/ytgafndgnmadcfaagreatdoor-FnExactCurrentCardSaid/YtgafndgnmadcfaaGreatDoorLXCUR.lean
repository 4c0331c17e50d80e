/- The statement, proved: at every argument that can be read the law answers true and leaves its arguments as they were. -/
import Derived.SevenTiedAt
import Derived.WalkKit
import Derived.ProofKit
import Derived.OpenShut
import Derived.ShutString
import Derived.ChangeOld
import Derived.Below
import Derived.Carry
import Derived.Deep.DeepHandedRow
import Derived.LaidHandle
import Derived.Lib.ReflectliteSlice
import Derived.RowKitTokens
import Derived.Stop.Asserts
import Derived.LaidEql
import Derived.LoopTactic
import Derived.Lib.Hide
import Derived.Test.YtgafndgnmadcfaaGreatDoorChecked
import Derived.Laws.AppendOwnNone
import Derived.OwnWalk
import Derived.Deep.AppendLies
import Derived.Laws.OwnMore
import Derived.Laws.CopyOwn
import Derived.Lib.BufferWrite
import Derived.Lib.SmallJoins
import Derived.Laws.BytesArg
import Derived.Test.YtgafndgnmadcfaaGreatDoorTie
import Derived.Test.YtgafndgnmadcfaaGreatDoorCards
import Derived.IntWalk
import Derived.Deep.RegionHeld3
import Derived.WalkSmall
import Derived.RegionTactic
import Derived.Deep.QuietTactic
import Derived.BigQuiet
import Derived.Handy
import Derived.Lib.SlBytesRow
import Derived.Lib.UnsafeStr
import Derived.PlainAid
import Derived.Lib.OthersKept
import Derived.Deep.Cut
import Derived.StillTailTactics
import Derived.KernelRfl
import Derived.Laws.NewBlocks
import Derived.RegionCalls
import Derived.Laws.LoneSync
import Derived.Laws.Pointers
import Derived.Defers
import Derived.Shelf.Abstract
import Derived.Lib.ConvBytes
import Derived.Orders
import Derived.StillTactics
import Derived.Still
import Derived.DataReads
import Derived.BigRegion
import Derived.Maps.AppendAt
import Derived.Deep.Slices
import Derived.Deep.MidRow
import Derived.Deep.CutRange
import Derived.Laws.IdiomStrings
import Derived.Lib.SliceRun
import Derived.Maps.OwnSet
import Derived.Sort.Walk0
import Derived.Sort.KeysCollected
import Derived.WideAt
import Derived.WideShapes
import Derived.Laws.AppendOwn
import Derived.Laws.IdiomCopy
import Derived.Lib.LazyBuf
import Derived.Deep.Upon
import Derived.Deep.AppendSrc
import Derived.Recover
import Derived.WalkLawsBesides
import Derived.Lib.Strings
import Derived.Deep.RegionWith
import Derived.Laws.Bits64
import Derived.Laws.BitsLemmas
import Derived.WalkMore
import Derived.ScopeJumps
import Derived.Test.YtgafndgnmadcfaaGreatDoorProg
import Derived.Ground.SlgmProg
import Derived.Ground.GgzProg
import Derived.Shelf.SortM.SortNone
import Derived.Shelf.SortM.Plain
import Derived.Shelf.SlIter.Nil
import Derived.Lib.AppendStr
import Derived.Test.YtgafndgnmadcfaaGreatDoorXCUR
namespace Go.Proofs.YtgafndgnmadcfaaGreatDoor.fnExactCurrent
open Go.ChangeShapes Go.WideShapes Go.ChangeAt Go.RowKit IRow
open Go.ChangeMaps (open_string shut_string)
set_option linter.unusedVariables false
theorem laidOut : laidOutB Tryz.prog = true := by kernel_rfl
open G MGet

/-! ### The walk. -/
set_option maxRecDepth 100000 in
set_option maxHeartbeats 16000000 in
theorem walk (ds : ByteArray) (dt : ByteArray) (c0 : Int) (c1 : Int) (c2 : Int) (c3 : Int) (a1 : Option Addr) (n1 : Nat) (a3 : Nat) (a2 : Option Addr) (n2 : Nat) (a4 : Nat) (ts : List Tm) (is : List Im) (op : Bool) (ma : ByteArray) (g1 : Option Addr) (gn : Nat) (g2 : Nat) (gs : List Ev) (no : Int) (on : Bool) (nd : Int) (mn : Int) (r1 : Option Addr) (rn : Nat) (r2 : Nat) (rs : List Ev) (eg en em ex : Int) (et : ByteArray) (we : et.size ≤ maxLen) (w : World) (hR : VtR w ds dt a1 n1 a3 a2 n2 a4 ts is ma g1 gn g2 gs r1 rn r2 rs) (hg : ET w) :
    Calls Tryz.prog 6 #[.agg #[.string ds, .string dt, .int .i64 c0, .int .i64 c1, .int .i64 c2, .int .i64 c3, .slice a1 n1 a3, .slice a2 n2 a4, .bool op, .string ma, .slice g1 gn g2, .int .i64 no, .bool on, .int .i64 nd, .int .i64 mn, .slice r1 rn r2], .agg #[.int .i64 eg, .int .i64 en, .int .i64 em, .int .i64 ex, .string et]] w fun e w' => e = .returned (.bool true) ∧ Below w.heap.size w w' := by
  obtain ⟨p, hin, hv⟩ := vault_named (c0 := c0) (c1 := c1) (c2 := c2) (c3 := c3) (op := op) (no := no) (on := on) (nd := nd) (mn := mn) hR
  clear hR
  generalize hva : (Value.agg #[.string ds, .string dt, .int .i64 c0, .int .i64 c1, .int .i64 c2, .int .i64 c3, .slice a1 n1 a3, .slice a2 n2 a4, .bool op, .string ma, .slice g1 gn g2, .int .i64 no, .bool on, .int .i64 nd, .int .i64 mn, .slice r1 rn r2]) = va at hv ⊢
  clear hva
  have HI := Lib.hid hin
  have HV := Lib.hid hv
  clear hin hv
  obtain ⟨W, hW⟩ : ∃ W, W = (w.alloc (.cells (cellsV va) 34)).alloc (.cells #[.int .i64 eg, .int .i64 en, .int .i64 em, .int .i64 ex, .string et] 68) := ⟨_, rfl⟩
  have HB0 : Hid (Below w.heap.size w W) := Lib.hid (by rw [hW]; exact ((Below.refl _ _).alloc (Nat.le_refl _) _).alloc (by simp) _)
  have HA : Hid (BV va W w.heap.size) := Lib.hid (by rw [hW]; exact (BV.made w HV.out.cells _).alloc _)
  have HE : Hid (BoxC W (w.heap.size + 1) [.int .i64 eg, .int .i64 en, .int .i64 em, .int .i64 ex, .string et]) := Lib.hid (by rw [hW]; have := BoxC.made (w.alloc (.cells (cellsV va) 34)) #[.int .i64 eg, .int .i64 en, .int .i64 em, .int .i64 ex, .string et] 68; rw [World.size_alloc] at this; exact this)
  have HRW : Hid (∀ u : World, Below W.heap.size W u → VV p va u) := Lib.hid (fun u hu => HV.out.below (HB0.out.trans (hu.mono HB0.out.size)))
  have HEW : Hid (∀ u : World, Below W.heap.size W u → ET u) := Lib.hid (fun u hu => hg.below (HB0.out.trans (hu.mono HB0.out.size)))
  go_enter Tryz.func6, Tryz.ntmps6
  go_upto_region 1 with (refine list_value rfl (exec_box (v := va) 34 _ rfl rfl) ?_; simp only [Act.put, List.getElem_toArray, List.getElem_cons_zero, List.getElem_cons_succ, List.setIfInBounds_toArray, List.set_cons_zero, List.set_cons_succ])
  rw [← hW]
  clear hW
  go_wp2_with (refine list_loadV HA.out 34 _ rfl rfl rfl (by kernel_rfl) ?_; simp only [Act.put, List.getElem_toArray, List.getElem_cons_zero, List.getElem_cons_succ, List.setIfInBounds_toArray, List.set_cons_zero, List.set_cons_succ])
  refine (szVaultV (HRW.out _ (Below.refl _ _)) HI.out).mono ?_
  rintro e v1 ⟨r, rfl, hr, hb⟩
  have HB1 : Hid (Below W.heap.size W v1) := Lib.hid hb
  clear hb
  rcases hr with rfl | ⟨rr0, rr1, hgd⟩
  · go_wp2_with fail
    go_ret
    exact ⟨rfl, HB0.out.trans (HB1.out.mono HB0.out.size)⟩
  have hnn : ¬ r < 0 := by omega
  have HG := Lib.hid hgd
  clear hgd
  go_wp2_with (refine list_load (HE.out.below HB1.out) 68 _ 5 rfl rfl rfl rfl (by kernel_rfl) ?_; simp only [Act.put, List.getElem_toArray, List.getElem_cons_zero, List.getElem_cons_succ, List.setIfInBounds_toArray, List.set_cons_zero, List.set_cons_succ])
  refine (szEnvL_any eg en em ex et r v1 we rr0 rr1).mono ?_
  rintro e v2 ⟨r2, rfl, hr, hb⟩
  have HB2 : Hid (Below W.heap.size W v2) := Lib.hid (HB1.out.trans (hb.mono HB1.out.size))
  clear hb
  rcases hr with rfl | ⟨q0, q1, hs2⟩
  · go_wp2_with fail
    go_ret
    exact ⟨rfl, HB0.out.trans (HB2.out.mono HB0.out.size)⟩
  have hnn2 : ¬ r2 < 0 := by omega
  have hmx : Tryz.prog.follows .mixedOrders = true := by kernel_rfl
  have HSP : Hid (∀ (u : World) (v : Value), VV p v u → Calls Tryz.prog 28 #[v, .agg #[.int .i64 eg, .int .i64 en, .int .i64 em, .int .i64 ex, .string et]] u fun e u' => e = .returned (.bool (p.cur eg en em ex et)) ∧ Below u.heap.size u u') := Lib.hid (fun u v h => specCurrentV eg en em ex et h HG.out we)
  have HIM : Hid (∀ (u : World) (v : Value), VV p v u → ET u → Calls Tryz.prog 30 #[v, .agg #[.int .i64 eg, .int .i64 en, .int .i64 em, .int .i64 ex, .string et]] u fun e u' => e = .returned (.bool (p.cur eg en em ex et)) ∧ Below u.heap.size u u') := Lib.hid (fun u v h he => implCurrentV eg en em ex et h HG.out he we)
  generalize p.cur eg en em ex et = z at *
  have HSS : Hid (∀ u, Below v2.heap.size v2 u → (BV va u w.heap.size ∧ BoxC u (w.heap.size + 1) [.int .i64 eg, .int .i64 en, .int .i64 em, .int .i64 ex, .string et])) := Lib.hid (fun u hu => ⟨HA.out.below (HB2.out.trans (hu.mono HB2.out.size)), HE.out.below (HB2.out.trans (hu.mono HB2.out.size))⟩)
  go_wp2_with fail
  refine TillZ.region (t := 5) hmx (fun u => BV va u w.heap.size ∧ BoxC u (w.heap.size + 1) [.int .i64 eg, .int .i64 en, .int .i64 em, .int .i64 ex, .string et]) ?_
  have HU0 : Hid (Below v2.heap.size v2 v2.drew) := Lib.hid (Below.refl _ _).drew
  have hS0 := HSS.out _ HU0.out
  refine TillZ.take (i := 0) (v := va) rfl rfl rfl (by kernel_rfl) (by kernel_rfl) (by kernel_rfl) (by kernel_rfl) hS0 (fun u hu => exec_loadV hu.1 34 _ rfl rfl (by kernel_rfl)) ?_
  simp only [Act.put, List.getElem_toArray, List.getElem_cons_zero, List.getElem_cons_succ, List.setIfInBounds_toArray, List.set_cons_zero, List.set_cons_succ]
  refine TillZ.take (i := 2) (v := .agg #[.int .i64 eg, .int .i64 en, .int .i64 em, .int .i64 ex, .string et]) rfl rfl rfl (by kernel_rfl) (by kernel_rfl) (by kernel_rfl) (by kernel_rfl) hS0 (fun u hu => exec_load hu.2 68 _ 5 rfl rfl rfl (by kernel_rfl)) ?_
  simp only [Act.put, List.getElem_toArray, List.getElem_cons_zero, List.getElem_cons_succ, List.setIfInBounds_toArray, List.set_cons_zero, List.set_cons_succ]
  generalize hu0 : v2.drew = u0 at *
  clear hu0 hS0
  refine TillZ.call (i := 1) (f := 9) (args := #[va]) (by kernel_rfl) rfl rfl rfl (by go_simp) ?_
  refine Calls.mono (toVaultV (HRW.out _ (HB2.out.trans (HU0.out.mono HB2.out.size))) HG.out) ?_
  rintro e x1 ⟨vb, rfl, ho, hb⟩
  have HU1 := Lib.hid (HU0.out.trans (hb.mono HU0.out.size))
  have HO1 := Lib.hid ho.read
  clear ho hb
  refine ⟨_, rfl, HSS.out _ HU1.out, ?_⟩
  simp only [Act.put, List.getElem_toArray, List.getElem_cons_zero, List.getElem_cons_succ, List.setIfInBounds_toArray, List.set_cons_zero, List.set_cons_succ]
  refine TillZ.call (i := 3) (f := 29) (args := #[.agg #[.int .i64 eg, .int .i64 en, .int .i64 em, .int .i64 ex, .string et]]) (by kernel_rfl) rfl rfl rfl (by go_simp) ?_
  refine Calls.mono (toEnv_any eg en em ex et x1) ?_
  rintro e x2 ⟨rfl, hb⟩
  have HU2 := Lib.hid (HU1.out.trans (hb.mono HU1.out.size))
  have HO2 := Lib.hid (HO1.out.below hb)
  clear hb
  refine ⟨_, rfl, HSS.out _ HU2.out, ?_⟩
  simp only [Act.put, List.getElem_toArray, List.getElem_cons_zero, List.getElem_cons_succ, List.setIfInBounds_toArray, List.set_cons_zero, List.set_cons_succ]
  refine TillZ.call (i := 4) (f := 28) (args := #[vb, .agg #[.int .i64 eg, .int .i64 en, .int .i64 em, .int .i64 ex, .string et]]) (by kernel_rfl) rfl rfl rfl (by go_simp) ?_
  refine Calls.mono (HSP.out _ _ HO2.out) ?_
  rintro e x3 ⟨rfl, hb⟩
  have hu3 := HU2.out.trans (hb.mono HU2.out.size)
  have hS3 := HSS.out _ hu3
  have HB3 : Hid (Below W.heap.size W x3) := Lib.hid (HB2.out.trans (hu3.mono HB2.out.size))
  clear hb hu3 HSP HSS HU0 HU1 HU2 HO1 HO2
  refine ⟨_, rfl, hS3, ?_⟩
  clear hS3
  simp only [Act.put, List.getElem_toArray, List.getElem_cons_zero, List.getElem_cons_succ, List.setIfInBounds_toArray, List.set_cons_zero, List.set_cons_succ]
  refine TillZ.hand (v := .bool z) (by kernel_rfl) rfl rfl (by go_simp) ?_
  simp only [Act.put, List.getElem_toArray, List.getElem_cons_zero, List.getElem_cons_succ, List.setIfInBounds_toArray, List.set_cons_zero, List.set_cons_succ]
  refine TillZ.any_done (by kernel_rfl) ?_ _
  go_wp2_with (refine list_loadV (HA.out.below HB3.out) 34 _ rfl rfl rfl (by kernel_rfl) ?_; simp only [Act.put, List.getElem_toArray, List.getElem_cons_zero, List.getElem_cons_succ, List.setIfInBounds_toArray, List.set_cons_zero, List.set_cons_succ])
  refine (toVaultV (HRW.out _ HB3.out) HG.out).mono ?_
  rintro e v4 ⟨ve, rfl, ho, hb⟩
  obtain ⟨V, hA, ⟨zs, hz, hZ⟩, hVB⟩ := allocV v4
  have HAL := Lib.hid hA
  have HZ := Lib.hid hZ
  have HZL := Lib.hid hz
  have HVC := Lib.hid ho.read.cells
  have hG := storeV_grown V v4.heap.size ve
  have HX : Hid (BV ve (storeV V v4.heap.size ve) v4.heap.size) := Lib.hid (storeV_box hZ hz HVC.out)
  have hYB : Below v4.heap.size v4 (storeV V v4.heap.size ve) := grown_below hVB hG (Nat.le_refl _) hVB.size
  have HO4 := Lib.hid (ho.read.below hYB)
  have HB4 : Hid (Below W.heap.size W (storeV V v4.heap.size ve)) := Lib.hid ((HB3.out.trans (hb.mono HB3.out.size)).trans (hYB.mono (HB3.out.trans (hb.mono HB3.out.size)).size))
  clear hb ho hA hz hZ hG hYB hVB
  go_wp2_with (first | (refine list_storeV HZ.out HZL.out HVC.out 47 _ _ rfl rfl rfl rfl (by kernel_rfl) ?_; simp only [Act.put, List.getElem_toArray, List.getElem_cons_zero, List.getElem_cons_succ, List.setIfInBounds_toArray, List.set_cons_zero, List.set_cons_succ]) | (refine list_value rfl (HAL.out _ _ rfl) ?_; simp only [Act.put, List.getElem_toArray, List.getElem_cons_zero, List.getElem_cons_succ, List.setIfInBounds_toArray, List.set_cons_zero, List.set_cons_succ]))
  generalize storeV V v4.heap.size ve = Y at *
  generalize v4.heap.size = hq at *
  clear HZ HAL HB3 HB2 HB1
  have HSS : Hid (∀ u, Below Y.heap.size Y u → (BV va u w.heap.size ∧ BoxC u (w.heap.size + 1) [.int .i64 eg, .int .i64 en, .int .i64 em, .int .i64 ex, .string et] ∧ BV ve u hq)) := Lib.hid (fun u hu => ⟨HA.out.below (HB4.out.trans (hu.mono HB4.out.size)), HE.out.below (HB4.out.trans (hu.mono HB4.out.size)), HX.out.below hu⟩)
  refine TillZ.region (t := 3) hmx (fun u => BV va u w.heap.size ∧ BoxC u (w.heap.size + 1) [.int .i64 eg, .int .i64 en, .int .i64 em, .int .i64 ex, .string et] ∧ BV ve u hq) ?_
  have HU0 : Hid (Below Y.heap.size Y Y.drew) := Lib.hid (Below.refl _ _).drew
  have hS0 := HSS.out _ HU0.out
  refine TillZ.take (i := 0) (v := ve) rfl rfl rfl (by kernel_rfl) (by kernel_rfl) (by kernel_rfl) (by kernel_rfl) hS0 (fun u hu => exec_loadV hu.2.2 47 _ rfl rfl (by kernel_rfl)) ?_
  simp only [Act.put, List.getElem_toArray, List.getElem_cons_zero, List.getElem_cons_succ, List.setIfInBounds_toArray, List.set_cons_zero, List.set_cons_succ]
  generalize hu0 : Y.drew = u0 at *
  clear hu0
  refine TillZ.value (i := 1) (v := .agg #[.int .i64 eg, .int .i64 en, .int .i64 em, .int .i64 ex, .string et]) (by kernel_rfl) rfl rfl rfl (exec_load hS0.2.1 68 _ 5 rfl rfl rfl (by kernel_rfl)) hS0 ?_
  simp only [Act.put, List.getElem_toArray, List.getElem_cons_zero, List.getElem_cons_succ, List.setIfInBounds_toArray, List.set_cons_zero, List.set_cons_succ]
  clear hS0
  refine TillZ.call (i := 2) (f := 29) (args := #[.agg #[.int .i64 eg, .int .i64 en, .int .i64 em, .int .i64 ex, .string et]]) (by kernel_rfl) rfl rfl rfl (by go_simp) ?_
  refine Calls.mono (toEnv_any eg en em ex et u0) ?_
  rintro e v5 ⟨rfl, hb⟩
  have HU5 := Lib.hid (HU0.out.trans (hb.mono HU0.out.size))
  clear hb
  refine ⟨_, rfl, HSS.out _ HU5.out, ?_⟩
  simp only [Act.put, List.getElem_toArray, List.getElem_cons_zero, List.getElem_cons_succ, List.setIfInBounds_toArray, List.set_cons_zero, List.set_cons_succ]
  refine hand_call (f := 30) (args := #[ve, .agg #[.int .i64 eg, .int .i64 en, .int .i64 em, .int .i64 ex, .string et]]) (by kernel_rfl) rfl rfl (by go_simp) ?_
  refine Calls.mono (HIM.out _ _ (HO4.out.below HU5.out) (HEW.out _ (HB4.out.trans (HU5.out.mono HB4.out.size)))) ?_
  rintro e v6 ⟨rfl, hb⟩
  have HU6 := Lib.hid (HU5.out.trans (hb.mono HU5.out.size))
  have HB6 := Lib.hid (HB4.out.trans (HU6.out.mono HB4.out.size))
  have HO6 := Lib.hid (HO4.out.below HU6.out)
  have HX6 := Lib.hid (HX.out.below HU6.out)
  clear hb HSS HU0 HU5 HU6 HX HO4 HB4 HIM
  refine ⟨_, rfl, ?_⟩
  simp only [Act.put, List.getElem_toArray, List.getElem_cons_zero, List.getElem_cons_succ, List.setIfInBounds_toArray, List.set_cons_zero, List.set_cons_succ]
  refine TillZ.any_value (i := 4) (v := .bool z) (by kernel_rfl) rfl rfl (by go_simp) ?_
  simp only [Act.put, List.getElem_toArray, List.getElem_cons_zero, List.getElem_cons_succ, List.setIfInBounds_toArray, List.set_cons_zero, List.set_cons_succ]
  refine TillZ.any_done (by kernel_rfl) ?_ _
  have HSS : Hid (∀ u, Below v6.heap.size v6 u → (BV va u w.heap.size ∧ BV ve u hq)) := Lib.hid (fun u hu => ⟨HA.out.below (HB6.out.trans (hu.mono HB6.out.size)), HX6.out.below hu⟩)
  go_wp2_with fail
  refine TillZ.region (t := 3) hmx (fun u => BV va u w.heap.size ∧ BV ve u hq) ?_
  have HU0 : Hid (Below v6.heap.size v6 v6.drew) := Lib.hid (Below.refl _ _).drew
  have hS0 := HSS.out _ HU0.out
  refine TillZ.take (i := 0) (v := ve) rfl rfl rfl (by kernel_rfl) (by kernel_rfl) (by kernel_rfl) (by kernel_rfl) hS0 (fun u hu => exec_loadV hu.2 47 _ rfl rfl (by kernel_rfl)) ?_
  simp only [Act.put, List.getElem_toArray, List.getElem_cons_zero, List.getElem_cons_succ, List.setIfInBounds_toArray, List.set_cons_zero, List.set_cons_succ]
  generalize hu0 : v6.drew = u0 at *
  clear hu0
  refine TillZ.value (i := 1) (v := va) (by kernel_rfl) rfl rfl rfl (exec_loadV hS0.1 34 _ rfl rfl (by kernel_rfl)) hS0 ?_
  simp only [Act.put, List.getElem_toArray, List.getElem_cons_zero, List.getElem_cons_succ, List.setIfInBounds_toArray, List.set_cons_zero, List.set_cons_succ]
  clear hS0
  refine TillZ.call (i := 2) (f := 9) (args := #[va]) (by kernel_rfl) rfl rfl rfl (by go_simp) ?_
  refine Calls.mono (toVaultV (HRW.out _ (HB6.out.trans (HU0.out.mono HB6.out.size))) HG.out) ?_
  rintro e v7 ⟨vd, rfl, ho, hb⟩
  have HU7 := Lib.hid (HU0.out.trans (hb.mono HU0.out.size))
  have HO7 := Lib.hid ho.read
  clear ho hb
  refine ⟨_, rfl, HSS.out _ HU7.out, ?_⟩
  simp only [Act.put, List.getElem_toArray, List.getElem_cons_zero, List.getElem_cons_succ, List.setIfInBounds_toArray, List.set_cons_zero, List.set_cons_succ]
  refine hand_call (f := 11) (args := #[ve, vd]) (by kernel_rfl) rfl rfl (by go_simp) ?_
  refine Calls.mono (eqVaultV (HO6.out.below HU7.out) HO7.out HG.out) ?_
  rintro e v8 ⟨rfl, hb⟩
  have HU8 := Lib.hid (HU7.out.trans (hb.mono HU7.out.size))
  clear hb
  refine ⟨_, rfl, ?_⟩
  simp only [Act.put, List.getElem_toArray, List.getElem_cons_zero, List.getElem_cons_succ, List.setIfInBounds_toArray, List.set_cons_zero, List.set_cons_succ]
  refine TillZ.any_value (i := 4) (v := .bool false) (by kernel_rfl) rfl rfl (by go_simp) ?_
  simp only [Act.put, List.getElem_toArray, List.getElem_cons_zero, List.getElem_cons_succ, List.setIfInBounds_toArray, List.set_cons_zero, List.set_cons_succ]
  refine TillZ.any_done (by kernel_rfl) ?_ _
  go_wp2_with fail
  go_ret
  exact ⟨rfl, HB0.out.trans ((HB6.out.trans (HU8.out.mono HB6.out.size)).mono HB0.out.size)⟩

/-! ### THE ROW's STEP -/
set_option maxRecDepth 100000 in
theorem contract (H : Type) (enc : TypeId × Value → H) (W : World) (base : Nat) (args : Array Value) (ds gs : List (DataW H)) (before : List MemPlace)
    (hval0 : ∀ (j : Nat) t v, Tryz.f6.params[j]? = some t → args[j]? = some v → Value.okWide Tryz.prog W .any base t v)
    (hW : DataW.Whole enc Tryz.prog Tryz.f6.params.toList Rows.fnExactCurrentSpec.vars false W args.toList ds gs before) (hL : laidMetH Tryz.prog laidL W) :
    Calls Tryz.prog 6 args W fun e W' => ∃ v, e = .returned v ∧ Rows.fnExactCurrentSpec.post enc Tryz.prog Tryz.f6 false true false false W args v W' := by
  have hval : ∀ (j : Nat) t v, Tryz.f6.params[j]? = some t → args[j]? = some v → Value.okWide Tryz.prog W .any base t v := hval0
  have hW' := hW
  obtain ⟨p, q, hA0, hV, rfl, hfz, hnd⟩ := hW
  have hA : DataW.TrodAll enc Tryz.prog W 0 (fun _ => true) true Tryz.f6.params.toList args.toList ds p := hA0
  rw [Tryz.params6] at hA hval
  obtain ⟨v0, vs0, d0, ds0, p0, q_0, hargs0, rfl, rfl, h0, r0⟩ := trodAll_cons hA
  obtain ⟨v1, vs1, d1, ds1, p1, q_1, hargs1, rfl, rfl, h1, r1⟩ := trodAll_cons r0
  obtain ⟨rfl, rfl, rfl⟩ := trodAll_nil r1
  obtain rfl : args = #[v0, v1] := by cases args; simp_all
  obtain ⟨rfl, rfl⟩ := trodVars_none hV
  have k0 := h0
  have lt0 : ∀ x ∈ p0, x.block < W.heap.size := by obtain ⟨m, hm⟩ := k0; exact DataW.trod_lt m _ _ _ hm
  obtain ⟨ds, dt, c0, c1, c2, c3, a1, n1, a3, a2, n2, a4, ts, is, op, ma, g1, gn, g2, gs, no, on, nd, mn, r1, rn, r2, rs, rfl, hR, _⟩ := vault_open (hval 0 34 v0 rfl rfl) h0
  obtain ⟨eg, en, em, ex, et, rfl, _, _, _, _, we, rfl, hs1⟩ := env_open (hval 1 68 v1 rfl rfl) h1
  clear hA0 hval0
  simp only [List.append_nil] at hW'
  refine (walk ds dt c0 c1 c2 c3 a1 n1 a3 a2 n2 a4 ts is op ma g1 gn g2 gs no on nd mn r1 rn r2 rs eg en em ex et we W hR (et_of_laid hL)).mono fun e W' ⟨he, hg⟩ => ?_
  subst he
  exact ⟨_, rfl, _, _, _, [], _, [], hW', trodAll_mk1 (shut_bool Tryz.underlying4 _), (trodAll_cons_mk (Below.trod laidOut (by kernel_rfl) (of_decide_eq_true (by kernel_rfl)) k0 hg lt0) (trodAll_cons_mk (hs1 _ _ _) trodAll_mk0)), rfl, hg.frame _, fun h => by cases h⟩
theorem reads (os : Os) {H : Type} (enc : TypeId × Value → H) : ∃ places, DataW.whole enc Tryz.prog ((laidWorld os).forCall (fun _ _ => 0) ⟨#[], #[Value.agg #[Value.string ByteArray.empty, Value.string ByteArray.empty, Value.int .i64 0, Value.int .i64 0, Value.int .i64 0, Value.int .i64 0, Value.slice none 0 0, Value.slice none 0 0, Value.bool false, Value.string ByteArray.empty, Value.slice none 0 0, Value.int .i64 0, Value.bool false, Value.int .i64 0, Value.int .i64 0, Value.slice none 0 0], Value.agg #[Value.int .i64 0, Value.int .i64 0, Value.int .i64 0, Value.int .i64 0, Value.string ByteArray.empty]], []⟩).memory Tryz.f6.params.toList Rows.fnExactCurrentSpec.vars false (#[Value.agg #[Value.string ByteArray.empty, Value.string ByteArray.empty, Value.int .i64 0, Value.int .i64 0, Value.int .i64 0, Value.int .i64 0, Value.slice none 0 0, Value.slice none 0 0, Value.bool false, Value.string ByteArray.empty, Value.slice none 0 0, Value.int .i64 0, Value.bool false, Value.int .i64 0, Value.int .i64 0, Value.slice none 0 0], Value.agg #[Value.int .i64 0, Value.int .i64 0, Value.int .i64 0, Value.int .i64 0, Value.string ByteArray.empty]] : Array Value).toList 8 = some ([.agg [.agg [.lit (.string []), .lit (.string [])], .agg [.agg [.lit (.int .i64 0), .lit (.int .i64 0), .lit (.int .i64 0), .lit (.int .i64 0)], .nil, .nil], .lit (.bool false), .lit (.string []), .nil, .lit (.int .i64 0), .agg [.lit (.bool false), .lit (.int .i64 0), .lit (.int .i64 0), .nil]], .agg [.lit (.int .i64 0), .lit (.int .i64 0), .lit (.int .i64 0), .lit (.int .i64 0), .lit (.string [])]], [], places) :=
  ⟨[], by kernel_rfl⟩
set_option maxRecDepth 100000 in
theorem lifted (os : Os) (started : os.Started) (H : Type) (enc : TypeId × Value → H) (F : Stop.Interp) :
    ReturnsInHanded {} Tryz.checked os 6 .any ((OpenSpec.ofChange Rows.fnExactCurrentSpec).preRow enc Tryz.prog Tryz.f6 Rows.fnExactCurrentRow.domain false Rows.fnExactCurrentRow.laid) (((OpenSpec.ofChange Rows.fnExactCurrentSpec).at F).post enc Tryz.prog Tryz.f6 false true false false) := by
  obtain ⟨places, hx⟩ := reads os enc
  refine returnsInHanded_of_row (C := Tryz.checked) (s := OpenSpec.ofChange Rows.fnExactCurrentSpec) door_own started (by kernel_rfl) Tryz.func6
    (witness_row_at (enc := enc) (C := Tryz.checked) false (laidWorld os) #[Value.agg #[Value.string ByteArray.empty, Value.string ByteArray.empty, Value.int .i64 0, Value.int .i64 0, Value.int .i64 0, Value.int .i64 0, Value.slice none 0 0, Value.slice none 0 0, Value.bool false, Value.string ByteArray.empty, Value.slice none 0 0, Value.int .i64 0, Value.bool false, Value.int .i64 0, Value.int .i64 0, Value.slice none 0 0], Value.agg #[Value.int .i64 0, Value.int .i64 0, Value.int .i64 0, Value.int .i64 0, Value.string ByteArray.empty]] rfl (by kernel_rfl) (by kernel_rfl) (by kernel_rfl)
      (OpenSpec.preRow_of_cond 8 hx (by kernel_rfl) (fun k hk => by cases hk) (by kernel_rfl) (laidWorld_met os _))) ?_
  intro W base args ds gs before hval hW _ _ _ hL _ _
  exact contract H enc W base args ds gs before hval hW hL
theorem j0 : (Rows.fnExactCurrentRow.wf (OpenSpec.ofChange (OpenSpec.ofChange Rows.fnExactCurrentSpec).bare)) = true := by kernel_rfl
theorem j1 : (laidOutB Tryz.pinned.checked.prog) = true := by kernel_rfl
theorem j2 : (mapsRowed Tryz.pinned.checked.prog) = true := by kernel_rfl
theorem j3 : (Tryz.f6.params.all (Tryz.pinned.checked.prog.readableRec ·)) = true := by kernel_rfl
theorem j4 : (namedTie Tryz.pinned.checked.prog Rows.fnExactCurrentRow.named (OpenSpec.ofChange Rows.fnExactCurrentSpec).bare.vars) = true := by kernel_rfl
theorem j5 : (Rows.fnExactCurrentRow.stops == []) = true := by kernel_rfl
theorem j6 : (Tryz.pinned.checked.prog.stops == []) = true := by kernel_rfl
theorem j7 : (Rows.fnExactCurrentRow.knobs == []) = true := by kernel_rfl
theorem j8 : (Tryz.pinned.checked.prog.stopKnobs == []) = true := by kernel_rfl
theorem j9 : (Rows.fnExactCurrentRow.inPlace == Tryz.pinned.checked.prog.inPlace 6) = true := by kernel_rfl
theorem j10 : (Rows.fnExactCurrentRow.unfollowed == Tryz.pinned.checked.prog.unfollowed 6) = true := by kernel_rfl
theorem j11 : (Rows.fnExactCurrentRow.recurses == Tryz.pinned.checked.prog.recurses 6) = true := by kernel_rfl
theorem j12 : (Rows.fnExactCurrentRow.named == Tryz.pinned.checked.prog.varsNamed 6) = true := by kernel_rfl
theorem j13 : (Rows.fnExactCurrentRow.maps == (Tryz.f6.params.toList ++ (OpenSpec.ofChange Rows.fnExactCurrentSpec).bare.plain.varTypes Tryz.pinned.checked.prog).any (Tryz.pinned.checked.prog.mapsRec ·)) = true := by kernel_rfl
theorem j14 : (Rows.fnExactCurrentRow.ifaces == (Tryz.f6.params.toList ++ (OpenSpec.ofChange Rows.fnExactCurrentSpec).bare.plain.varTypes Tryz.pinned.checked.prog).any (Tryz.pinned.checked.prog.ifacesRec ·)) = true := by kernel_rfl
theorem j15 : (Rows.fnExactCurrentRow.mapsOut == Tryz.pinned.checked.prog.mapsAmong Tryz.f6.resultTypes.toList) = true := by kernel_rfl
theorem j16 : (Rows.fnExactCurrentRow.loops == (Tryz.f6.params.toList ++ (OpenSpec.ofChange Rows.fnExactCurrentSpec).bare.plain.varTypes Tryz.pinned.checked.prog).any (Tryz.pinned.checked.prog.loopsFrom ·)) = true := by kernel_rfl
theorem j17 : (Rows.fnExactCurrentRow.wideKeys == (Tryz.f6.params.toList ++ (OpenSpec.ofChange Rows.fnExactCurrentSpec).bare.plain.varTypes Tryz.pinned.checked.prog ++ Tryz.f6.resultTypes.toList).any (Tryz.pinned.checked.prog.wideKeysFrom ·)) = true := by kernel_rfl
theorem j18 : ((OpenSpec.ofChange Rows.fnExactCurrentSpec).bare.vars.all (Tryz.pinned.checked.prog.varReadable ·)) = true := by kernel_rfl
theorem j19 : (Tryz.f6.resultTypes.all (fun t => Tryz.pinned.checked.prog.readableRec t && decide (t < Tryz.pinned.checked.prog.types.size))) = true := by kernel_rfl
theorem j20 : (Rows.fnExactCurrentRow.ifacesOut == Tryz.f6.resultTypes.toList.any (Tryz.pinned.checked.prog.ifacesRec ·)) = true := by kernel_rfl
theorem j21 : (Rows.fnExactCurrentRow.loopsOut == Tryz.f6.resultTypes.toList.any (Tryz.pinned.checked.prog.loopsFrom ·)) = true := by kernel_rfl
theorem j22 : (Rows.fnExactCurrentRow.plainKeys == Tryz.pinned.checked.prog.plainKeys) = true := by kernel_rfl
theorem j23 : (Rows.fnExactCurrentRow.shortTexts.isNone) = true := by kernel_rfl
theorem j24 : (Tryz.pinned.checked.prog.stopsHeard) = true := by kernel_rfl
theorem j25 : (Tryz.pinned.checked.prog.mayEnter) = true := by kernel_rfl
theorem j26 : (Rows.fnExactCurrentRow.lifted == Tryz.pinned.checked.prog.liftsFinal) = true := by kernel_rfl
theorem j27 : (Tryz.pinned.checked.prog.make == some Rows.fnExactCurrentRow.make) = true := by kernel_rfl
theorem j28 : (Rows.fnExactCurrentRow.kinds == (if Rows.fnExactCurrentRow.domain.isEmpty then [] else Tryz.f6.params.toList.map fun t => match Tryz.pinned.checked.prog.underlying t with | some (.int k) => some k | _ => none)) = true := by kernel_rfl
theorem j29 : (Rows.fnExactCurrentRow.pinned == Rows.fnExactCurrentRow.pinnedBy) = true := by kernel_rfl
theorem j30 : (Rows.fnExactCurrentRow.veiled == (Tryz.f6.params.toList ++ (OpenSpec.ofChange Rows.fnExactCurrentSpec).bare.plain.varTypes Tryz.pinned.checked.prog ++ Tryz.f6.resultTypes.toList).any (Tryz.pinned.checked.prog.veiledRec ·)) = true := by kernel_rfl
theorem j31 : (Rows.fnExactCurrentRow.veiledFits Tryz.pinned.checked.prog Tryz.f6.params.toList (Tryz.f6.params.toList ++ (OpenSpec.ofChange Rows.fnExactCurrentSpec).bare.plain.varTypes Tryz.pinned.checked.prog ++ Tryz.f6.resultTypes.toList)) = true := by kernel_rfl
set_option maxRecDepth 100000 in
theorem closed : joinedFacts Tryz.pinned.checked.prog 6 Tryz.f6 (OpenSpec.ofChange Rows.fnExactCurrentSpec).bare Rows.fnExactCurrentRow = true := by
  unfold joinedFacts
  exact (Bool.and_eq_true_iff.2 ⟨(Bool.and_eq_true_iff.2 ⟨(Bool.and_eq_true_iff.2 ⟨(Bool.and_eq_true_iff.2 ⟨(Bool.and_eq_true_iff.2 ⟨(Bool.and_eq_true_iff.2 ⟨(Bool.and_eq_true_iff.2 ⟨(Bool.and_eq_true_iff.2 ⟨(Bool.and_eq_true_iff.2 ⟨(Bool.and_eq_true_iff.2 ⟨(Bool.and_eq_true_iff.2 ⟨(Bool.and_eq_true_iff.2 ⟨(Bool.and_eq_true_iff.2 ⟨(Bool.and_eq_true_iff.2 ⟨(Bool.and_eq_true_iff.2 ⟨(Bool.and_eq_true_iff.2 ⟨(Bool.and_eq_true_iff.2 ⟨(Bool.and_eq_true_iff.2 ⟨(Bool.and_eq_true_iff.2 ⟨(Bool.and_eq_true_iff.2 ⟨(Bool.and_eq_true_iff.2 ⟨(Bool.and_eq_true_iff.2 ⟨(Bool.and_eq_true_iff.2 ⟨(Bool.and_eq_true_iff.2 ⟨(Bool.and_eq_true_iff.2 ⟨(Bool.and_eq_true_iff.2 ⟨(Bool.and_eq_true_iff.2 ⟨(Bool.and_eq_true_iff.2 ⟨(Bool.and_eq_true_iff.2 ⟨(Bool.and_eq_true_iff.2 ⟨(Bool.and_eq_true_iff.2 ⟨j0, j1⟩), j2⟩), j3⟩), j4⟩), j5⟩), j6⟩), j7⟩), j8⟩), j9⟩), j10⟩), j11⟩), j12⟩), j13⟩), j14⟩), j15⟩), j16⟩), j17⟩), j18⟩), j19⟩), j20⟩), j21⟩), j22⟩), j23⟩), j24⟩), j25⟩), j26⟩), j27⟩), j28⟩), j29⟩), j30⟩), j31⟩)
theorem said : Rows.FnExactCurrentSaid :=
  OpenClaim.holds_of_cond 6 Tryz.f6 rfl rfl rfl rfl rfl rfl rfl ⟨rfl, rfl, rfl, rfl, rfl⟩ rfl rfl rfl rfl rfl (by kernel_rfl) Tryz.func6 closed
    (of_decide_eq_true (by kernel_rfl)) (by unfold Func.isWrapper; first | (rw [if_pos (by decide +kernel)]; kernel_rfl) | (rw [if_neg (by decide +kernel)]; exact ⟨rfl, rfl⟩))
    (fun os started H enc _ F => by rw [OpenClaim.pre_eq_preRow]; exact lifted os started H enc F)
theorem plain (f : FuncId) (fn : Func) (hf : Tryz.pinned.checked.prog.funcNamed "loop.example/g00839/laws.FnExactCurrent" = some f) (hfn : Tryz.pinned.checked.prog.funcs[f]? = some fn) :
    true = Tryz.pinned.checked.prog.looks [] ∧ ∀ (j : Nat) t, fn.params[j]? = some t → Tryz.pinned.checked.prog.wantsStandIn t = false := by
  obtain rfl : f = 6 := Option.some.inj ((show Tryz.prog.funcNamed "loop.example/g00839/laws.FnExactCurrent" = some 6 by kernel_rfl).symm.trans hf) |>.symm
  obtain rfl : fn = Tryz.f6 := (Option.some.inj (Tryz.func6.symm.trans hfn)).symm
  refine ⟨by kernel_rfl, fun j t ht => ?_⟩
  rw [Tryz.params6] at ht
  have h : t = 34 ∨ t = 68 := by simpa using Array.mem_of_getElem? ht
  rcases h with rfl | rfl
  · exact (show Tryz.prog.wantsStandIn 34 = false by kernel_rfl)
  · exact (show Tryz.prog.wantsStandIn 68 = false by kernel_rfl)

/-- The statement: the card, tied to the program's text. -/
theorem proved : Rows.FnExactCurrentCardSaid :=
  Claim7.holds_tied_plain_at .later [] _ _ _ _ said (fun _ h => by cases h) (by kernel_rfl) (fun _ h => by cases h) fnExactCurrent_row_tie rfl ⟨rfl, rfl⟩ (by kernel_rfl) rfl plain (by kernel_rfl)
end Go.Proofs.YtgafndgnmadcfaaGreatDoor.fnExactCurrent
