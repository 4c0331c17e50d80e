/- PROVED: the statement 'FnExactBookDoSaid': at every argument the law's function answers true and leaves its arguments as they were. The frame was written by the kit's own frame writer. -/
import Derived.Test.YtnoefpkhbllmiaaGreatBookL
import Derived.Test.YtnoefpkhbllmiaaGreatOpenB
import Derived.Test.YtnoefpkhbllmiaaGreatRowDeed1
import Derived.Deep.RegionHeld3
import Derived.Deep.Cut
import Derived.Test.YtnoefpkhbllmiaaGreatTillZ
import Derived.Test.YtnoefpkhbllmiaaGreatRows
import Derived.WalkKit
import Derived.ProofKit
import Derived.OpenShut
import Derived.ShutString
import Derived.ChangeOld
import Derived.Below
import Derived.Carry
namespace Go.Proofs.YtnoefpkhbllmiaaGreat.fnExactBookDo
open Go.ChangeShapes Go.WideShapes Go.ChangeAt Go.RowKit IRow
open Go.ChangeMaps (open_string shut_string)
set_option linter.unusedVariables false
theorem own : ownKnob Tryz.prog.godebug = none := by kernel_rfl
theorem laidOut : laidOutB Tryz.prog = true := by kernel_rfl
open G IRow Go.RowKit Go.PlainAid
theorem bookDoS_len (b : Bk) (d : Dd) : (bookDoS b d).1.ts.length ≤ 1048576 ∧ (bookDoS b d).1.is.length ≤ 1048576 := by
  unfold bookDoS
  split
  · rename_i h
    by_cases hc : (doS b d).2 = 0
    · have hr := doS_right h.1 h.2 hc
      exact ⟨by have := hr.len.2; omega, by have := hr.many; omega⟩
    · have hr := (doS_code b d).resolve_left hc
      rw [hr]
      exact ⟨by simp [bk0], by simp [bk0]⟩
  · exact ⟨by simp [bk0], by simp [bk0]⟩
theorem hand_call {P : Program} {ops : Array Oper} {md : Region.Mode} {S : World → Prop} {Q : Exit → Act → World → Prop} {t : Nat} {o : Oper} {k : Nat} {listed : Array Bool} {a : Act} {w : World} {f : FuncId} {args : Array Value} (hr : Region.ready md ops listed = [t]) (ho : ops[t]? = some o) (hg : o.guard = none) (he : (execOp a.eval o).run P w = .ok (.enter f args) w)
    (h : Calls P f args w fun e w'' => ∃ v, e = .returned v ∧ wpAny P md ops Q k (listed.setIfInBounds t true) (a.put o.dst v) w'') : TillZ.wpZ P md ops S t Q (k + 1) listed a w :=
  TillZ.one hr ⟨o, ho, hg, by rw [he]; exact Calls.mono h (fun e w'' he => by obtain ⟨v, rfl, h1⟩ := he; exact ⟨fun _ => h1, fun e => absurd rfl e⟩)⟩
theorem boxC_marked {w w1 w' : World} {h : Nat} {cs : List Value} {r1 r2 : Option Nat} (b : BoxC w h cs) (hg1 : w.grownBy w1 r1) (hg2 : w1.grownBy w' r2) (h1 : ∀ q, r1 = some q → q ≠ h) (h2 : ∀ q, r2 = some q → q ≠ h) : BoxC w' h cs :=
  (b.grown hg1 (fun e => h1 h e.symm rfl)).grown hg2 (fun e => h2 h e.symm rfl)
theorem bkO_marked {w w1 w' : World} {base : Nat} {a1 a2 : Option Addr} {n1 a3 n2 a4 : Nat} {ts : List Tm} {is : List Im} {v1 v2 : Value} (h : BkO w base a1 n1 a3 a2 n2 a4 ts is) (hg1 : w.grownBy w1 v1.ownBlock) (hg2 : w1.grownBy w' v2.ownBlock) (d11 : Disj (.slice a1 n1 a3) v1) (d12 : Disj (.slice a1 n1 a3) v2) (d21 : Disj (.slice a2 n2 a4) v1) (d22 : Disj (.slice a2 n2 a4) v2) : BkO w' base a1 n1 a3 a2 n2 a4 ts is :=
  ⟨own_grown (own_grown h.t hg1 d11) hg2 d12, own_grown (own_grown h.i hg1 d21) hg2 d22⟩
theorem below_marked {B : Nat} {a w w1 w' : World} {r1 r2 : Option Nat} (h : Below B a w) (hg1 : w.grownBy w1 r1) (hg2 : w1.grownBy w' r2) (hB : B ≤ w.heap.size) (h1 : ∀ q, r1 = some q → B ≤ q) (h2 : ∀ q, r2 = some q → B ≤ q) : Below B a w' :=
  (h.grown hg1 hB h1).grown hg2 (Nat.le_trans hB hg1.size) h2

/-! ### The walk. -/
set_option maxRecDepth 100000 in
set_option maxHeartbeats 4000000 in
theorem walk (c0 : Int) (c1 : Int) (c2 : Int) (c3 : Int) (a1 : Option Addr) (n1 : Nat) (a3 : Nat) (a2 : Option Addr) (n2 : Nat) (a4 : Nat) (ts : List Tm) (is : List Im) (qb0 : Int) (qb1 : Int) (qb2 : Int) (qb3 : Int) (qb4 : Int) (qb5 : Int) (qb6 : ByteArray) (qb7 : ByteArray) (qb8 : Int) (qb9 : ByteArray) (wqb : (Lit.int .i64 qb0).wf = true ∧ (Lit.int .i64 qb1).wf = true ∧ (Lit.int .i64 qb2).wf = true ∧ (Lit.int .i64 qb3).wf = true ∧ (Lit.int .i64 qb4).wf = true ∧ (Lit.int .i64 qb5).wf = true ∧ qb6.size ≤ maxLen ∧ qb7.size ≤ maxLen ∧ (Lit.int .i64 qb8).wf = true ∧ qb9.size ≤ maxLen) (w : World) (hR : BkR w a1 n1 a3 a2 n2 a4 ts is) (hn : n1 ≤ maxLen ∧ n2 ≤ maxLen) (ht : ∀ i, i < n1 → TmG (ts.getD i tmD)) (hi : ∀ i, i < n2 → ImG (is.getD i imD)) :
    Calls Tryz.prog 3 #[.agg #[.int .i64 c0, .int .i64 c1, .int .i64 c2, .int .i64 c3, .slice a1 n1 a3, .slice a2 n2 a4], .agg #[.int .i64 qb0, .int .i64 qb1, .int .i64 qb2, .int .i64 qb3, .int .i64 qb4, .int .i64 qb5, .string qb6, .string qb7, .int .i64 qb8, .string qb9]] w fun e w' => e = .returned (.bool true) ∧ Below w.heap.size w w' := by
  have HN := Lib.hid hn
  have HT := Lib.hid ht
  have HI := Lib.hid hi
  have HR := Lib.hid hR
  obtain ⟨u0, u1, u2, u3, u4, u5, u6, u7, u8, u9⟩ := wqb
  have H6 := Lib.hid u6
  have H7 := Lib.hid u7
  have H9 := Lib.hid u9
  clear u0 u1 u2 u3 u4 u5 u6 u7 u8 u9 hn ht hi hR
  obtain ⟨W, hW⟩ : ∃ W, W = (w.alloc (.cells #[.int .i64 c0, .int .i64 c1, .int .i64 c2, .int .i64 c3, .slice a1 n1 a3, .slice a2 n2 a4] 27)).alloc (.cells #[.int .i64 qb0, .int .i64 qb1, .int .i64 qb2, .int .i64 qb3, .int .i64 qb4, .int .i64 qb5, .string qb6, .string qb7, .int .i64 qb8, .string qb9] 33) := ⟨_, rfl⟩
  have HB0 : Hid (Below w.heap.size w W) := Lib.hid (by rw [hW]; repeat' (first | exact Below.refl _ _ | refine Below.alloc ?_ (by first | exact Nat.le_refl _ | (simp; done) | (simp; omega)) _))
  have HWS : Hid (w.heap.size + 2 = W.heap.size) := Lib.hid (by rw [hW, World.size_alloc, World.size_alloc])
  have HA : Hid (BoxC W w.heap.size [.int .i64 c0, .int .i64 c1, .int .i64 c2, .int .i64 c3, .slice a1 n1 a3, .slice a2 n2 a4]) := Lib.hid (by rw [hW]; exact (BoxC.made _ _ _).alloc _)
  have HD : Hid (BoxC W (w.heap.size + 1) [.int .i64 qb0, .int .i64 qb1, .int .i64 qb2, .int .i64 qb3, .int .i64 qb4, .int .i64 qb5, .string qb6, .string qb7, .int .i64 qb8, .string qb9]) := Lib.hid (by rw [hW]; have := BoxC.made (w.alloc (.cells #[.int .i64 c0, .int .i64 c1, .int .i64 c2, .int .i64 c3, .slice a1 n1 a3, .slice a2 n2 a4] 27)) #[.int .i64 qb0, .int .i64 qb1, .int .i64 qb2, .int .i64 qb3, .int .i64 qb4, .int .i64 qb5, .string qb6, .string qb7, .int .i64 qb8, .string qb9] 33; rwa [World.size_alloc] at this)
  have HLB : ∀ u : World, Below W.heap.size W u → Hid (BoxC u w.heap.size [.int .i64 c0, .int .i64 c1, .int .i64 c2, .int .i64 c3, .slice a1 n1 a3, .slice a2 n2 a4]) := fun u hu => Lib.hid (HA.out.below hu)
  have HLD : ∀ u : World, Below W.heap.size W u → Hid (BoxC u (w.heap.size + 1) [.int .i64 qb0, .int .i64 qb1, .int .i64 qb2, .int .i64 qb3, .int .i64 qb4, .int .i64 qb5, .string qb6, .string qb7, .int .i64 qb8, .string qb9]) := fun u hu => Lib.hid (HD.out.below hu)
  have HRW : ∀ u : World, Below W.heap.size W u → Hid (BkR u a1 n1 a3 a2 n2 a4 ts is) := fun u hu => Lib.hid (HR.out.below (HB0.out.trans (hu.mono HB0.out.size)))
  go_enter Tryz.func3, Tryz.ntmps3
  go_wp2_with fail
  rw [← hW]
  clear hW
  refine (szBook_any c0 c1 c2 c3 a1 a2 n1 n2 a3 a4 ts is 1048576 _ (HRW _ (Below.refl _ _)).out (by have := HN.out.1; unfold maxLen at this; omega) (by have := HN.out.2; unfold maxLen at this; omega) HT.out HI.out (by omega) (by omega)).mono ?_
  rintro e v1 ⟨r1, rfl, hr, hb⟩
  have HB1 : Hid (Below W.heap.size W v1) := Lib.hid hb
  clear hb
  rcases hr with rfl | ⟨r10, r11, ⟨hn1, hn2⟩, hs1, hs2⟩
  · go_wp2_with fail
    go_ret
    exact ⟨rfl, HB0.out.trans (HB1.out.mono HB0.out.size)⟩
  have hnn : ¬ r1 < 0 := by omega
  clear hs1 hs2
  have y0 := ((HLD _ HB1.out).out).cell 0 _ rfl
  have y1 := ((HLD _ HB1.out).out).cell 1 _ rfl
  have y2 := ((HLD _ HB1.out).out).cell 2 _ rfl
  have y3 := ((HLD _ HB1.out).out).cell 3 _ rfl
  have y4 := ((HLD _ HB1.out).out).cell 4 _ rfl
  have y5 := ((HLD _ HB1.out).out).cell 5 _ rfl
  have y6 := ((HLD _ HB1.out).out).cell 6 _ rfl
  have y7 := ((HLD _ HB1.out).out).cell 7 _ rfl
  have y8 := ((HLD _ HB1.out).out).cell 8 _ rfl
  have y9 := ((HLD _ HB1.out).out).cell 9 _ rfl
  go_wp2_with fail
  refine (szDeed_any qb0 qb1 qb2 qb3 qb4 qb5 qb6 qb7 qb8 qb9 r1 _ H6.out H7.out H9.out (by omega) (by omega)).mono ?_
  rintro e v2 ⟨r2, rfl, hr, hb⟩
  have HB2 := Lib.hid (HB1.out.trans (hb.mono HB1.out.size))
  clear hb y0 y1 y2 y3 y4 y5 y6 y7 y8 y9
  rcases hr with rfl | ⟨r20, r21, _, _, _⟩
  · go_wp2_with fail
    go_ret
    exact ⟨rfl, HB0.out.trans (HB2.out.mono HB0.out.size)⟩
  have hnm : ¬ r2 < 0 := by omega
  clear r10 r11 r20 r21 HB1
  obtain ⟨r, hrd⟩ : ∃ r, bookDoS ⟨c0, c1, c2, c3, ts, is⟩ ⟨qb0, qb1, qb2, qb3, qb4, qb5, qb6, qb7, qb8, qb9⟩ = r := ⟨_, rfl⟩
  have HRD := Lib.hid hrd
  have HRL : Hid (r.1.ts.length ≤ 1048576 ∧ r.1.is.length ≤ 1048576) := Lib.hid (by rw [← hrd]; exact bookDoS_len _ _)
  clear hrd
  have hmx : Tryz.prog.follows .mixedOrders = true := by kernel_rfl
  have HSS : Hid (∀ u, Below W.heap.size W u → (BoxC u w.heap.size [.int .i64 c0, .int .i64 c1, .int .i64 c2, .int .i64 c3, .slice a1 n1 a3, .slice a2 n2 a4] ∧ BoxC u (w.heap.size + 1) [.int .i64 qb0, .int .i64 qb1, .int .i64 qb2, .int .i64 qb3, .int .i64 qb4, .int .i64 qb5, .string qb6, .string qb7, .int .i64 qb8, .string qb9])) := Lib.hid (fun u hu => ⟨(HLB u hu).out, (HLD u hu).out⟩)
  go_upto_region 8 with fail
  go_cut [6] from 23 (fun v u => ∃ nb g1 gn1 g3 g2 gn2 g4, v = .pointer (some ⟨nb, 0, none⟩) ∧ BoxC u nb [.int .i64 r.1.c0, .int .i64 r.1.c1, .int .i64 r.1.c2, .int .i64 r.1.c3, .slice g1 gn1 g3, .slice g2 gn2 g4, .int .i64 r.2] ∧ BkO u W.heap.size g1 gn1 g3 g2 gn2 g4 r.1.ts r.1.is ∧ ((∀ q, (Value.slice g1 gn1 g3).ownBlock = some q → q ≠ nb) ∧ ∀ q, (Value.slice g2 gn2 g4).ownBlock = some q → q ≠ nb) ∧ W.heap.size ≤ nb ∧ Below W.heap.size W u)
  case first =>
    refine TillZ.region (t := 6) hmx (fun u => BoxC u w.heap.size [.int .i64 c0, .int .i64 c1, .int .i64 c2, .int .i64 c3, .slice a1 n1 a3, .slice a2 n2 a4] ∧ BoxC u (w.heap.size + 1) [.int .i64 qb0, .int .i64 qb1, .int .i64 qb2, .int .i64 qb3, .int .i64 qb4, .int .i64 qb5, .string qb6, .string qb7, .int .i64 qb8, .string qb9]) ?_
    have HU0 : Hid (Below W.heap.size W v2.drew) := Lib.hid HB2.out.drew
    have hS0 := HSS.out _ HU0.out
    refine TillZ.take (i := 0) (v := .agg #[.int .i64 c0, .int .i64 c1, .int .i64 c2, .int .i64 c3, .slice a1 n1 a3, .slice a2 n2 a4]) rfl rfl rfl (by kernel_rfl) (by kernel_rfl) (by kernel_rfl) (by kernel_rfl) hS0 (fun u hu => by have z0 := hu.1.cell 0 _ rfl; have z1 := hu.1.cell 1 _ rfl; have z2 := hu.1.cell 2 _ rfl; have z3 := hu.1.cell 3 _ rfl; have z4 := hu.1.cell 4 _ rfl; have z5 := hu.1.cell 5 _ rfl; go_simp) ?_
    simp only [Act.put, List.getElem_toArray, List.getElem_cons_zero, List.getElem_cons_succ, List.setIfInBounds_toArray, List.set_cons_zero, List.set_cons_succ]
    refine TillZ.take (i := 2) (v := .agg #[.int .i64 qb0, .int .i64 qb1, .int .i64 qb2, .int .i64 qb3, .int .i64 qb4, .int .i64 qb5, .string qb6, .string qb7, .int .i64 qb8, .string qb9]) rfl rfl rfl (by kernel_rfl) (by kernel_rfl) (by kernel_rfl) (by kernel_rfl) hS0 (fun u hu => by have z0 := hu.2.cell 0 _ rfl; have z1 := hu.2.cell 1 _ rfl; have z2 := hu.2.cell 2 _ rfl; have z3 := hu.2.cell 3 _ rfl; have z4 := hu.2.cell 4 _ rfl; have z5 := hu.2.cell 5 _ rfl; have z6 := hu.2.cell 6 _ rfl; have z7 := hu.2.cell 7 _ rfl; have z8 := hu.2.cell 8 _ rfl; have z9 := hu.2.cell 9 _ rfl; go_simp) ?_
    simp only [Act.put, List.getElem_toArray, List.getElem_cons_zero, List.getElem_cons_succ, List.setIfInBounds_toArray, List.set_cons_zero, List.set_cons_succ]
    generalize v2.drew = u0 at *
    refine TillZ.two (i := 1) (j := 5) (by kernel_rfl) ?_ ?_
    · skip
      refine TillZ.callz (i := 1) (f := 7) (args := #[.agg #[.int .i64 c0, .int .i64 c1, .int .i64 c2, .int .i64 c3, .slice a1 n1 a3, .slice a2 n2 a4]]) rfl rfl rfl (by go_simp) ?_
      refine Calls.mono (toBook_any c0 c1 c2 c3 a1 a2 n1 n2 a3 a4 ts is u0 ((HRW _ HU0.out).out) hn1 hn2) ?_
      rintro e ug1 ⟨b1, b3, b2, b4, rfl, ho, hb⟩
      have HUug1 := Lib.hid (HU0.out.trans (hb.mono HU0.out.size))
      have HOug1 := Lib.hid (ho.mono HU0.out.size)
      refine ⟨_, rfl, HSS.out _ HUug1.out, ?_⟩
      clear hb ho
      simp only [Act.put, List.getElem_toArray, List.getElem_cons_zero, List.getElem_cons_succ, List.setIfInBounds_toArray, List.set_cons_zero, List.set_cons_succ]
      refine TillZ.two (i := 3) (j := 5) (by kernel_rfl) ?_ ?_
      · skip
        refine TillZ.callz (i := 3) (f := 8) (args := #[.agg #[.int .i64 qb0, .int .i64 qb1, .int .i64 qb2, .int .i64 qb3, .int .i64 qb4, .int .i64 qb5, .string qb6, .string qb7, .int .i64 qb8, .string qb9]]) rfl rfl rfl (by go_simp) ?_
        refine Calls.mono (toDeed_any qb0 qb1 qb2 qb3 qb4 qb5 qb6 qb7 qb8 qb9 ug1) ?_
        rintro e ug2 ⟨rfl, hb⟩
        have HUug2 := Lib.hid (HUug1.out.trans (hb.mono HUug1.out.size))
        have HOug2 := Lib.hid (HOug1.out.below hb)
        refine ⟨_, rfl, HSS.out _ HUug2.out, ?_⟩
        clear hb
        simp only [Act.put, List.getElem_toArray, List.getElem_cons_zero, List.getElem_cons_succ, List.setIfInBounds_toArray, List.set_cons_zero, List.set_cons_succ]
        refine TillZ.two (i := 4) (j := 5) (by kernel_rfl) ?_ ?_
        · skip
          refine TillZ.callz (i := 4) (f := 6) (args := #[.agg #[.int .i64 c0, .int .i64 c1, .int .i64 c2, .int .i64 c3, .slice b1 n1 b3, .slice b2 n2 b4], .agg #[.int .i64 qb0, .int .i64 qb1, .int .i64 qb2, .int .i64 qb3, .int .i64 qb4, .int .i64 qb5, .string qb6, .string qb7, .int .i64 qb8, .string qb9]]) rfl rfl rfl (by go_simp) ?_
          refine Calls.mono (specBookDo_any ⟨c0, c1, c2, c3, ts, is⟩ b1 b2 n1 n2 b3 b4 qb0 qb1 qb2 qb3 qb4 qb5 qb6 qb7 qb8 qb9 ug2 HOug2.out.read hn1 hn2 HT.out HI.out H6.out H7.out H9.out) ?_
          rintro e ug3 hnb
          rw [HRD.out] at hnb
          obtain ⟨g1, gn1, g3, g2, gn2, g4, rfl, ho, hb⟩ := hnb
          have HUug3 := Lib.hid (HUug2.out.trans (hb.mono HUug2.out.size))
          have HOug3 := Lib.hid (HOug2.out.below hb)
          have HGug3 := Lib.hid (ho.mono HUug2.out.size)
          refine ⟨_, rfl, HSS.out _ HUug3.out, ?_⟩
          clear hb ho
          simp only [Act.put, List.getElem_toArray, List.getElem_cons_zero, List.getElem_cons_succ, List.setIfInBounds_toArray, List.set_cons_zero, List.set_cons_succ]
          refine TillZ.one (i := 5) (by kernel_rfl) ?_
          refine TillZ.opz (i := 5) (v := .pointer (some ⟨ug3.heap.size, 0, none⟩)) (w' := ug3.alloc (.cells #[.int .i64 0, .int .i64 0, .int .i64 0, .int .i64 0, .slice none 0 0, .slice none 0 0, .int .i64 0] 42)) rfl rfl rfl (by go_simp) (HSS.out _ (HUug3.out.alloc HUug3.out.size _)) ?_
          simp only [Act.put, List.getElem_toArray, List.getElem_cons_zero, List.getElem_cons_succ, List.setIfInBounds_toArray, List.set_cons_zero, List.set_cons_succ]
          have HUug4 := Lib.hid (HUug3.out.alloc HUug3.out.size (.cells #[.int .i64 0, .int .i64 0, .int .i64 0, .int .i64 0, .slice none 0 0, .slice none 0 0, .int .i64 0] 42))
          have HXug4 := Lib.hid (BoxC.made ug3 #[.int .i64 0, .int .i64 0, .int .i64 0, .int .i64 0, .slice none 0 0, .slice none 0 0, .int .i64 0] 42)
          have HNBug4 := Lib.hid HUug3.out.size
          have HOug4 := Lib.hid (HOug3.out.below ((Below.refl ug3.heap.size ug3).alloc (Nat.le_refl _) (.cells #[.int .i64 0, .int .i64 0, .int .i64 0, .int .i64 0, .slice none 0 0, .slice none 0 0, .int .i64 0] 42)))
          have HGug4 := Lib.hid (HGug3.out.below ((Below.refl ug3.heap.size ug3).alloc (Nat.le_refl _) (.cells #[.int .i64 0, .int .i64 0, .int .i64 0, .int .i64 0, .slice none 0 0, .slice none 0 0, .int .i64 0] 42)))
          have HQug4 : Hid ((∀ q, (Value.slice g1 gn1 g3).ownBlock = some q → q ≠ ug3.heap.size) ∧ ∀ q, (Value.slice g2 gn2 g4).ownBlock = some q → q ≠ ug3.heap.size) := Lib.hid ⟨fun q hq => by have := (HGug3.out.t.lt q hq).2; omega, fun q hq => by have := (HGug3.out.i.lt q hq).2; omega⟩
          generalize hwug4 : ug3.alloc (.cells #[.int .i64 0, .int .i64 0, .int .i64 0, .int .i64 0, .slice none 0 0, .slice none 0 0, .int .i64 0] 42) = ug4 at *
          clear hwug4
          have z0 := HXug4.out.cell 0 _ rfl
          have f0 := HXug4.out.free 0
          have z1 := HXug4.out.cell 1 _ rfl
          have f1 := HXug4.out.free 1
          have z2 := HXug4.out.cell 2 _ rfl
          have f2 := HXug4.out.free 2
          have z3 := HXug4.out.cell 3 _ rfl
          have f3 := HXug4.out.free 3
          have z4 := HXug4.out.cell 4 _ rfl
          have f4 := HXug4.out.free 4
          have z5 := HXug4.out.cell 5 _ rfl
          have f5 := HXug4.out.free 5
          have z6 := HXug4.out.cell 6 _ rfl
          have f6 := HXug4.out.free 6
          refine TillZ.hand_skip (w' := ((((((ug4.setCell ⟨ug3.heap.size, 0, none⟩ (.int .i64 r.1.c0)).setCell ⟨ug3.heap.size, 1, none⟩ (.int .i64 r.1.c1)).setCell ⟨ug3.heap.size, 2, none⟩ (.int .i64 r.1.c2)).setCell ⟨ug3.heap.size, 3, none⟩ (.int .i64 r.1.c3)).setCell ⟨ug3.heap.size, 4, none⟩ (.slice g1 gn1 g3)).setCell ⟨ug3.heap.size, 5, none⟩ (.slice g2 gn2 g4)).setCell ⟨ug3.heap.size, 6, none⟩ (.int .i64 r.2)) (by kernel_rfl) rfl rfl (by go_simp) ?_
          simp only [Act.put, List.getElem_toArray, List.getElem_cons_zero, List.getElem_cons_succ, List.setIfInBounds_toArray, List.set_cons_zero, List.set_cons_succ]
          refine TillZ.any_done (by kernel_rfl) ?_ _
          go_wp2_with fail
          go_meet
          case rel => exact ⟨ug3.heap.size, g1, gn1, g3, g2, gn2, g4, rfl, (((((((HXug4.out.set (j := 0) (by simp) (.int .i64 r.1.c0)).set (j := 1) (by simp) (.int .i64 r.1.c1)).set (j := 2) (by simp) (.int .i64 r.1.c2)).set (j := 3) (by simp) (.int .i64 r.1.c3)).set (j := 4) (by simp) (.slice g1 gn1 g3)).set (j := 5) (by simp) (.slice g2 gn2 g4)).set (j := 6) (by simp) (.int .i64 r.2)), ⟨(own_other (own_other (own_other (own_other (own_other (own_other (own_other HGug4.out.t (b := ug3.heap.size) HQug4.out.1 ⟨ug3.heap.size, 0, none⟩ (.int .i64 r.1.c0) rfl) (b := ug3.heap.size) HQug4.out.1 ⟨ug3.heap.size, 1, none⟩ (.int .i64 r.1.c1) rfl) (b := ug3.heap.size) HQug4.out.1 ⟨ug3.heap.size, 2, none⟩ (.int .i64 r.1.c2) rfl) (b := ug3.heap.size) HQug4.out.1 ⟨ug3.heap.size, 3, none⟩ (.int .i64 r.1.c3) rfl) (b := ug3.heap.size) HQug4.out.1 ⟨ug3.heap.size, 4, none⟩ (.slice g1 gn1 g3) rfl) (b := ug3.heap.size) HQug4.out.1 ⟨ug3.heap.size, 5, none⟩ (.slice g2 gn2 g4) rfl) (b := ug3.heap.size) HQug4.out.1 ⟨ug3.heap.size, 6, none⟩ (.int .i64 r.2) rfl), (own_other (own_other (own_other (own_other (own_other (own_other (own_other HGug4.out.i (b := ug3.heap.size) HQug4.out.2 ⟨ug3.heap.size, 0, none⟩ (.int .i64 r.1.c0) rfl) (b := ug3.heap.size) HQug4.out.2 ⟨ug3.heap.size, 1, none⟩ (.int .i64 r.1.c1) rfl) (b := ug3.heap.size) HQug4.out.2 ⟨ug3.heap.size, 2, none⟩ (.int .i64 r.1.c2) rfl) (b := ug3.heap.size) HQug4.out.2 ⟨ug3.heap.size, 3, none⟩ (.int .i64 r.1.c3) rfl) (b := ug3.heap.size) HQug4.out.2 ⟨ug3.heap.size, 4, none⟩ (.slice g1 gn1 g3) rfl) (b := ug3.heap.size) HQug4.out.2 ⟨ug3.heap.size, 5, none⟩ (.slice g2 gn2 g4) rfl) (b := ug3.heap.size) HQug4.out.2 ⟨ug3.heap.size, 6, none⟩ (.int .i64 r.2) rfl)⟩, HQug4.out, HNBug4.out, (((((((HUug4.out.setCell (p := ⟨ug3.heap.size, 0, none⟩) HNBug4.out (.int .i64 r.1.c0)).setCell (p := ⟨ug3.heap.size, 1, none⟩) HNBug4.out (.int .i64 r.1.c1)).setCell (p := ⟨ug3.heap.size, 2, none⟩) HNBug4.out (.int .i64 r.1.c2)).setCell (p := ⟨ug3.heap.size, 3, none⟩) HNBug4.out (.int .i64 r.1.c3)).setCell (p := ⟨ug3.heap.size, 4, none⟩) HNBug4.out (.slice g1 gn1 g3)).setCell (p := ⟨ug3.heap.size, 5, none⟩) HNBug4.out (.slice g2 gn2 g4)).setCell (p := ⟨ug3.heap.size, 6, none⟩) HNBug4.out (.int .i64 r.2))⟩
        · skip
          refine TillZ.opz (i := 5) (v := .pointer (some ⟨ug2.heap.size, 0, none⟩)) (w' := ug2.alloc (.cells #[.int .i64 0, .int .i64 0, .int .i64 0, .int .i64 0, .slice none 0 0, .slice none 0 0, .int .i64 0] 42)) rfl rfl rfl (by go_simp) (HSS.out _ (HUug2.out.alloc HUug2.out.size _)) ?_
          simp only [Act.put, List.getElem_toArray, List.getElem_cons_zero, List.getElem_cons_succ, List.setIfInBounds_toArray, List.set_cons_zero, List.set_cons_succ]
          have HUug5 := Lib.hid (HUug2.out.alloc HUug2.out.size (.cells #[.int .i64 0, .int .i64 0, .int .i64 0, .int .i64 0, .slice none 0 0, .slice none 0 0, .int .i64 0] 42))
          have HXug5 := Lib.hid (BoxC.made ug2 #[.int .i64 0, .int .i64 0, .int .i64 0, .int .i64 0, .slice none 0 0, .slice none 0 0, .int .i64 0] 42)
          have HNBug5 := Lib.hid HUug2.out.size
          have HOug5 := Lib.hid (HOug2.out.below ((Below.refl ug2.heap.size ug2).alloc (Nat.le_refl _) (.cells #[.int .i64 0, .int .i64 0, .int .i64 0, .int .i64 0, .slice none 0 0, .slice none 0 0, .int .i64 0] 42)))
          generalize hwug5 : ug2.alloc (.cells #[.int .i64 0, .int .i64 0, .int .i64 0, .int .i64 0, .slice none 0 0, .slice none 0 0, .int .i64 0] 42) = ug5 at *
          clear hwug5
          refine TillZ.one (i := 4) (by kernel_rfl) ?_
          refine TillZ.callz (i := 4) (f := 6) (args := #[.agg #[.int .i64 c0, .int .i64 c1, .int .i64 c2, .int .i64 c3, .slice b1 n1 b3, .slice b2 n2 b4], .agg #[.int .i64 qb0, .int .i64 qb1, .int .i64 qb2, .int .i64 qb3, .int .i64 qb4, .int .i64 qb5, .string qb6, .string qb7, .int .i64 qb8, .string qb9]]) rfl rfl rfl (by go_simp) ?_
          refine Calls.mono (specBookDo_any ⟨c0, c1, c2, c3, ts, is⟩ b1 b2 n1 n2 b3 b4 qb0 qb1 qb2 qb3 qb4 qb5 qb6 qb7 qb8 qb9 ug5 HOug5.out.read hn1 hn2 HT.out HI.out H6.out H7.out H9.out) ?_
          rintro e ug6 hnb
          rw [HRD.out] at hnb
          obtain ⟨g1, gn1, g3, g2, gn2, g4, rfl, ho, hb⟩ := hnb
          have HUug6 := Lib.hid (HUug5.out.trans (hb.mono HUug5.out.size))
          have HXug6 := Lib.hid (HXug5.out.below hb)
          have HOug6 := Lib.hid (HOug5.out.below hb)
          have HQug6 : Hid ((∀ q, (Value.slice g1 gn1 g3).ownBlock = some q → q ≠ ug2.heap.size) ∧ ∀ q, (Value.slice g2 gn2 g4).ownBlock = some q → q ≠ ug2.heap.size) := Lib.hid ⟨fun q hq => by have := (ho.t.lt q hq).1; have := HXug5.out.lt; omega, fun q hq => by have := (ho.i.lt q hq).1; have := HXug5.out.lt; omega⟩
          have HGug6 := Lib.hid (ho.mono HUug5.out.size)
          refine ⟨_, rfl, HSS.out _ HUug6.out, ?_⟩
          clear hb ho
          simp only [Act.put, List.getElem_toArray, List.getElem_cons_zero, List.getElem_cons_succ, List.setIfInBounds_toArray, List.set_cons_zero, List.set_cons_succ]
          have z0 := HXug6.out.cell 0 _ rfl
          have f0 := HXug6.out.free 0
          have z1 := HXug6.out.cell 1 _ rfl
          have f1 := HXug6.out.free 1
          have z2 := HXug6.out.cell 2 _ rfl
          have f2 := HXug6.out.free 2
          have z3 := HXug6.out.cell 3 _ rfl
          have f3 := HXug6.out.free 3
          have z4 := HXug6.out.cell 4 _ rfl
          have f4 := HXug6.out.free 4
          have z5 := HXug6.out.cell 5 _ rfl
          have f5 := HXug6.out.free 5
          have z6 := HXug6.out.cell 6 _ rfl
          have f6 := HXug6.out.free 6
          refine TillZ.hand_skip (w' := ((((((ug6.setCell ⟨ug2.heap.size, 0, none⟩ (.int .i64 r.1.c0)).setCell ⟨ug2.heap.size, 1, none⟩ (.int .i64 r.1.c1)).setCell ⟨ug2.heap.size, 2, none⟩ (.int .i64 r.1.c2)).setCell ⟨ug2.heap.size, 3, none⟩ (.int .i64 r.1.c3)).setCell ⟨ug2.heap.size, 4, none⟩ (.slice g1 gn1 g3)).setCell ⟨ug2.heap.size, 5, none⟩ (.slice g2 gn2 g4)).setCell ⟨ug2.heap.size, 6, none⟩ (.int .i64 r.2)) (by kernel_rfl) rfl rfl (by go_simp) ?_
          simp only [Act.put, List.getElem_toArray, List.getElem_cons_zero, List.getElem_cons_succ, List.setIfInBounds_toArray, List.set_cons_zero, List.set_cons_succ]
          refine TillZ.any_done (by kernel_rfl) ?_ _
          go_wp2_with fail
          go_meet
          case rel => exact ⟨ug2.heap.size, g1, gn1, g3, g2, gn2, g4, rfl, (((((((HXug6.out.set (j := 0) (by simp) (.int .i64 r.1.c0)).set (j := 1) (by simp) (.int .i64 r.1.c1)).set (j := 2) (by simp) (.int .i64 r.1.c2)).set (j := 3) (by simp) (.int .i64 r.1.c3)).set (j := 4) (by simp) (.slice g1 gn1 g3)).set (j := 5) (by simp) (.slice g2 gn2 g4)).set (j := 6) (by simp) (.int .i64 r.2)), ⟨(own_other (own_other (own_other (own_other (own_other (own_other (own_other HGug6.out.t (b := ug2.heap.size) HQug6.out.1 ⟨ug2.heap.size, 0, none⟩ (.int .i64 r.1.c0) rfl) (b := ug2.heap.size) HQug6.out.1 ⟨ug2.heap.size, 1, none⟩ (.int .i64 r.1.c1) rfl) (b := ug2.heap.size) HQug6.out.1 ⟨ug2.heap.size, 2, none⟩ (.int .i64 r.1.c2) rfl) (b := ug2.heap.size) HQug6.out.1 ⟨ug2.heap.size, 3, none⟩ (.int .i64 r.1.c3) rfl) (b := ug2.heap.size) HQug6.out.1 ⟨ug2.heap.size, 4, none⟩ (.slice g1 gn1 g3) rfl) (b := ug2.heap.size) HQug6.out.1 ⟨ug2.heap.size, 5, none⟩ (.slice g2 gn2 g4) rfl) (b := ug2.heap.size) HQug6.out.1 ⟨ug2.heap.size, 6, none⟩ (.int .i64 r.2) rfl), (own_other (own_other (own_other (own_other (own_other (own_other (own_other HGug6.out.i (b := ug2.heap.size) HQug6.out.2 ⟨ug2.heap.size, 0, none⟩ (.int .i64 r.1.c0) rfl) (b := ug2.heap.size) HQug6.out.2 ⟨ug2.heap.size, 1, none⟩ (.int .i64 r.1.c1) rfl) (b := ug2.heap.size) HQug6.out.2 ⟨ug2.heap.size, 2, none⟩ (.int .i64 r.1.c2) rfl) (b := ug2.heap.size) HQug6.out.2 ⟨ug2.heap.size, 3, none⟩ (.int .i64 r.1.c3) rfl) (b := ug2.heap.size) HQug6.out.2 ⟨ug2.heap.size, 4, none⟩ (.slice g1 gn1 g3) rfl) (b := ug2.heap.size) HQug6.out.2 ⟨ug2.heap.size, 5, none⟩ (.slice g2 gn2 g4) rfl) (b := ug2.heap.size) HQug6.out.2 ⟨ug2.heap.size, 6, none⟩ (.int .i64 r.2) rfl)⟩, HQug6.out, HNBug5.out, (((((((HUug6.out.setCell (p := ⟨ug2.heap.size, 0, none⟩) HNBug5.out (.int .i64 r.1.c0)).setCell (p := ⟨ug2.heap.size, 1, none⟩) HNBug5.out (.int .i64 r.1.c1)).setCell (p := ⟨ug2.heap.size, 2, none⟩) HNBug5.out (.int .i64 r.1.c2)).setCell (p := ⟨ug2.heap.size, 3, none⟩) HNBug5.out (.int .i64 r.1.c3)).setCell (p := ⟨ug2.heap.size, 4, none⟩) HNBug5.out (.slice g1 gn1 g3)).setCell (p := ⟨ug2.heap.size, 5, none⟩) HNBug5.out (.slice g2 gn2 g4)).setCell (p := ⟨ug2.heap.size, 6, none⟩) HNBug5.out (.int .i64 r.2))⟩
      · skip
        refine TillZ.opz (i := 5) (v := .pointer (some ⟨ug1.heap.size, 0, none⟩)) (w' := ug1.alloc (.cells #[.int .i64 0, .int .i64 0, .int .i64 0, .int .i64 0, .slice none 0 0, .slice none 0 0, .int .i64 0] 42)) rfl rfl rfl (by go_simp) (HSS.out _ (HUug1.out.alloc HUug1.out.size _)) ?_
        simp only [Act.put, List.getElem_toArray, List.getElem_cons_zero, List.getElem_cons_succ, List.setIfInBounds_toArray, List.set_cons_zero, List.set_cons_succ]
        have HUug7 := Lib.hid (HUug1.out.alloc HUug1.out.size (.cells #[.int .i64 0, .int .i64 0, .int .i64 0, .int .i64 0, .slice none 0 0, .slice none 0 0, .int .i64 0] 42))
        have HXug7 := Lib.hid (BoxC.made ug1 #[.int .i64 0, .int .i64 0, .int .i64 0, .int .i64 0, .slice none 0 0, .slice none 0 0, .int .i64 0] 42)
        have HNBug7 := Lib.hid HUug1.out.size
        have HOug7 := Lib.hid (HOug1.out.below ((Below.refl ug1.heap.size ug1).alloc (Nat.le_refl _) (.cells #[.int .i64 0, .int .i64 0, .int .i64 0, .int .i64 0, .slice none 0 0, .slice none 0 0, .int .i64 0] 42)))
        generalize hwug7 : ug1.alloc (.cells #[.int .i64 0, .int .i64 0, .int .i64 0, .int .i64 0, .slice none 0 0, .slice none 0 0, .int .i64 0] 42) = ug7 at *
        clear hwug7
        refine TillZ.one (i := 3) (by kernel_rfl) ?_
        refine TillZ.callz (i := 3) (f := 8) (args := #[.agg #[.int .i64 qb0, .int .i64 qb1, .int .i64 qb2, .int .i64 qb3, .int .i64 qb4, .int .i64 qb5, .string qb6, .string qb7, .int .i64 qb8, .string qb9]]) rfl rfl rfl (by go_simp) ?_
        refine Calls.mono (toDeed_any qb0 qb1 qb2 qb3 qb4 qb5 qb6 qb7 qb8 qb9 ug7) ?_
        rintro e ug8 ⟨rfl, hb⟩
        have HUug8 := Lib.hid (HUug7.out.trans (hb.mono HUug7.out.size))
        have HXug8 := Lib.hid (HXug7.out.below hb)
        have HOug8 := Lib.hid (HOug7.out.below hb)
        refine ⟨_, rfl, HSS.out _ HUug8.out, ?_⟩
        clear hb
        simp only [Act.put, List.getElem_toArray, List.getElem_cons_zero, List.getElem_cons_succ, List.setIfInBounds_toArray, List.set_cons_zero, List.set_cons_succ]
        refine TillZ.one (i := 4) (by kernel_rfl) ?_
        refine TillZ.callz (i := 4) (f := 6) (args := #[.agg #[.int .i64 c0, .int .i64 c1, .int .i64 c2, .int .i64 c3, .slice b1 n1 b3, .slice b2 n2 b4], .agg #[.int .i64 qb0, .int .i64 qb1, .int .i64 qb2, .int .i64 qb3, .int .i64 qb4, .int .i64 qb5, .string qb6, .string qb7, .int .i64 qb8, .string qb9]]) rfl rfl rfl (by go_simp) ?_
        refine Calls.mono (specBookDo_any ⟨c0, c1, c2, c3, ts, is⟩ b1 b2 n1 n2 b3 b4 qb0 qb1 qb2 qb3 qb4 qb5 qb6 qb7 qb8 qb9 ug8 HOug8.out.read hn1 hn2 HT.out HI.out H6.out H7.out H9.out) ?_
        rintro e ug9 hnb
        rw [HRD.out] at hnb
        obtain ⟨g1, gn1, g3, g2, gn2, g4, rfl, ho, hb⟩ := hnb
        have HUug9 := Lib.hid (HUug8.out.trans (hb.mono HUug8.out.size))
        have HXug9 := Lib.hid (HXug8.out.below hb)
        have HOug9 := Lib.hid (HOug8.out.below hb)
        have HQug9 : Hid ((∀ q, (Value.slice g1 gn1 g3).ownBlock = some q → q ≠ ug1.heap.size) ∧ ∀ q, (Value.slice g2 gn2 g4).ownBlock = some q → q ≠ ug1.heap.size) := Lib.hid ⟨fun q hq => by have := (ho.t.lt q hq).1; have := HXug8.out.lt; omega, fun q hq => by have := (ho.i.lt q hq).1; have := HXug8.out.lt; omega⟩
        have HGug9 := Lib.hid (ho.mono HUug8.out.size)
        refine ⟨_, rfl, HSS.out _ HUug9.out, ?_⟩
        clear hb ho
        simp only [Act.put, List.getElem_toArray, List.getElem_cons_zero, List.getElem_cons_succ, List.setIfInBounds_toArray, List.set_cons_zero, List.set_cons_succ]
        have z0 := HXug9.out.cell 0 _ rfl
        have f0 := HXug9.out.free 0
        have z1 := HXug9.out.cell 1 _ rfl
        have f1 := HXug9.out.free 1
        have z2 := HXug9.out.cell 2 _ rfl
        have f2 := HXug9.out.free 2
        have z3 := HXug9.out.cell 3 _ rfl
        have f3 := HXug9.out.free 3
        have z4 := HXug9.out.cell 4 _ rfl
        have f4 := HXug9.out.free 4
        have z5 := HXug9.out.cell 5 _ rfl
        have f5 := HXug9.out.free 5
        have z6 := HXug9.out.cell 6 _ rfl
        have f6 := HXug9.out.free 6
        refine TillZ.hand_skip (w' := ((((((ug9.setCell ⟨ug1.heap.size, 0, none⟩ (.int .i64 r.1.c0)).setCell ⟨ug1.heap.size, 1, none⟩ (.int .i64 r.1.c1)).setCell ⟨ug1.heap.size, 2, none⟩ (.int .i64 r.1.c2)).setCell ⟨ug1.heap.size, 3, none⟩ (.int .i64 r.1.c3)).setCell ⟨ug1.heap.size, 4, none⟩ (.slice g1 gn1 g3)).setCell ⟨ug1.heap.size, 5, none⟩ (.slice g2 gn2 g4)).setCell ⟨ug1.heap.size, 6, none⟩ (.int .i64 r.2)) (by kernel_rfl) rfl rfl (by go_simp) ?_
        simp only [Act.put, List.getElem_toArray, List.getElem_cons_zero, List.getElem_cons_succ, List.setIfInBounds_toArray, List.set_cons_zero, List.set_cons_succ]
        refine TillZ.any_done (by kernel_rfl) ?_ _
        go_wp2_with fail
        go_meet
        case rel => exact ⟨ug1.heap.size, g1, gn1, g3, g2, gn2, g4, rfl, (((((((HXug9.out.set (j := 0) (by simp) (.int .i64 r.1.c0)).set (j := 1) (by simp) (.int .i64 r.1.c1)).set (j := 2) (by simp) (.int .i64 r.1.c2)).set (j := 3) (by simp) (.int .i64 r.1.c3)).set (j := 4) (by simp) (.slice g1 gn1 g3)).set (j := 5) (by simp) (.slice g2 gn2 g4)).set (j := 6) (by simp) (.int .i64 r.2)), ⟨(own_other (own_other (own_other (own_other (own_other (own_other (own_other HGug9.out.t (b := ug1.heap.size) HQug9.out.1 ⟨ug1.heap.size, 0, none⟩ (.int .i64 r.1.c0) rfl) (b := ug1.heap.size) HQug9.out.1 ⟨ug1.heap.size, 1, none⟩ (.int .i64 r.1.c1) rfl) (b := ug1.heap.size) HQug9.out.1 ⟨ug1.heap.size, 2, none⟩ (.int .i64 r.1.c2) rfl) (b := ug1.heap.size) HQug9.out.1 ⟨ug1.heap.size, 3, none⟩ (.int .i64 r.1.c3) rfl) (b := ug1.heap.size) HQug9.out.1 ⟨ug1.heap.size, 4, none⟩ (.slice g1 gn1 g3) rfl) (b := ug1.heap.size) HQug9.out.1 ⟨ug1.heap.size, 5, none⟩ (.slice g2 gn2 g4) rfl) (b := ug1.heap.size) HQug9.out.1 ⟨ug1.heap.size, 6, none⟩ (.int .i64 r.2) rfl), (own_other (own_other (own_other (own_other (own_other (own_other (own_other HGug9.out.i (b := ug1.heap.size) HQug9.out.2 ⟨ug1.heap.size, 0, none⟩ (.int .i64 r.1.c0) rfl) (b := ug1.heap.size) HQug9.out.2 ⟨ug1.heap.size, 1, none⟩ (.int .i64 r.1.c1) rfl) (b := ug1.heap.size) HQug9.out.2 ⟨ug1.heap.size, 2, none⟩ (.int .i64 r.1.c2) rfl) (b := ug1.heap.size) HQug9.out.2 ⟨ug1.heap.size, 3, none⟩ (.int .i64 r.1.c3) rfl) (b := ug1.heap.size) HQug9.out.2 ⟨ug1.heap.size, 4, none⟩ (.slice g1 gn1 g3) rfl) (b := ug1.heap.size) HQug9.out.2 ⟨ug1.heap.size, 5, none⟩ (.slice g2 gn2 g4) rfl) (b := ug1.heap.size) HQug9.out.2 ⟨ug1.heap.size, 6, none⟩ (.int .i64 r.2) rfl)⟩, HQug9.out, HNBug7.out, (((((((HUug9.out.setCell (p := ⟨ug1.heap.size, 0, none⟩) HNBug7.out (.int .i64 r.1.c0)).setCell (p := ⟨ug1.heap.size, 1, none⟩) HNBug7.out (.int .i64 r.1.c1)).setCell (p := ⟨ug1.heap.size, 2, none⟩) HNBug7.out (.int .i64 r.1.c2)).setCell (p := ⟨ug1.heap.size, 3, none⟩) HNBug7.out (.int .i64 r.1.c3)).setCell (p := ⟨ug1.heap.size, 4, none⟩) HNBug7.out (.slice g1 gn1 g3)).setCell (p := ⟨ug1.heap.size, 5, none⟩) HNBug7.out (.slice g2 gn2 g4)).setCell (p := ⟨ug1.heap.size, 6, none⟩) HNBug7.out (.int .i64 r.2))⟩
    · skip
      refine TillZ.opz (i := 5) (v := .pointer (some ⟨u0.heap.size, 0, none⟩)) (w' := u0.alloc (.cells #[.int .i64 0, .int .i64 0, .int .i64 0, .int .i64 0, .slice none 0 0, .slice none 0 0, .int .i64 0] 42)) rfl rfl rfl (by go_simp) (HSS.out _ (HU0.out.alloc HU0.out.size _)) ?_
      simp only [Act.put, List.getElem_toArray, List.getElem_cons_zero, List.getElem_cons_succ, List.setIfInBounds_toArray, List.set_cons_zero, List.set_cons_succ]
      have HUug10 := Lib.hid (HU0.out.alloc HU0.out.size (.cells #[.int .i64 0, .int .i64 0, .int .i64 0, .int .i64 0, .slice none 0 0, .slice none 0 0, .int .i64 0] 42))
      have HXug10 := Lib.hid (BoxC.made u0 #[.int .i64 0, .int .i64 0, .int .i64 0, .int .i64 0, .slice none 0 0, .slice none 0 0, .int .i64 0] 42)
      have HNBug10 := Lib.hid HU0.out.size
      generalize hwug10 : u0.alloc (.cells #[.int .i64 0, .int .i64 0, .int .i64 0, .int .i64 0, .slice none 0 0, .slice none 0 0, .int .i64 0] 42) = ug10 at *
      clear hwug10
      refine TillZ.one (i := 1) (by kernel_rfl) ?_
      refine TillZ.callz (i := 1) (f := 7) (args := #[.agg #[.int .i64 c0, .int .i64 c1, .int .i64 c2, .int .i64 c3, .slice a1 n1 a3, .slice a2 n2 a4]]) rfl rfl rfl (by go_simp) ?_
      refine Calls.mono (toBook_any c0 c1 c2 c3 a1 a2 n1 n2 a3 a4 ts is ug10 ((HRW _ HUug10.out).out) hn1 hn2) ?_
      rintro e ug11 ⟨b1, b3, b2, b4, rfl, ho, hb⟩
      have HUug11 := Lib.hid (HUug10.out.trans (hb.mono HUug10.out.size))
      have HXug11 := Lib.hid (HXug10.out.below hb)
      have HOug11 := Lib.hid (ho.mono HUug10.out.size)
      refine ⟨_, rfl, HSS.out _ HUug11.out, ?_⟩
      clear hb ho
      simp only [Act.put, List.getElem_toArray, List.getElem_cons_zero, List.getElem_cons_succ, List.setIfInBounds_toArray, List.set_cons_zero, List.set_cons_succ]
      refine TillZ.one (i := 3) (by kernel_rfl) ?_
      refine TillZ.callz (i := 3) (f := 8) (args := #[.agg #[.int .i64 qb0, .int .i64 qb1, .int .i64 qb2, .int .i64 qb3, .int .i64 qb4, .int .i64 qb5, .string qb6, .string qb7, .int .i64 qb8, .string qb9]]) rfl rfl rfl (by go_simp) ?_
      refine Calls.mono (toDeed_any qb0 qb1 qb2 qb3 qb4 qb5 qb6 qb7 qb8 qb9 ug11) ?_
      rintro e ug12 ⟨rfl, hb⟩
      have HUug12 := Lib.hid (HUug11.out.trans (hb.mono HUug11.out.size))
      have HXug12 := Lib.hid (HXug11.out.below hb)
      have HOug12 := Lib.hid (HOug11.out.below hb)
      refine ⟨_, rfl, HSS.out _ HUug12.out, ?_⟩
      clear hb
      simp only [Act.put, List.getElem_toArray, List.getElem_cons_zero, List.getElem_cons_succ, List.setIfInBounds_toArray, List.set_cons_zero, List.set_cons_succ]
      refine TillZ.one (i := 4) (by kernel_rfl) ?_
      refine TillZ.callz (i := 4) (f := 6) (args := #[.agg #[.int .i64 c0, .int .i64 c1, .int .i64 c2, .int .i64 c3, .slice b1 n1 b3, .slice b2 n2 b4], .agg #[.int .i64 qb0, .int .i64 qb1, .int .i64 qb2, .int .i64 qb3, .int .i64 qb4, .int .i64 qb5, .string qb6, .string qb7, .int .i64 qb8, .string qb9]]) rfl rfl rfl (by go_simp) ?_
      refine Calls.mono (specBookDo_any ⟨c0, c1, c2, c3, ts, is⟩ b1 b2 n1 n2 b3 b4 qb0 qb1 qb2 qb3 qb4 qb5 qb6 qb7 qb8 qb9 ug12 HOug12.out.read hn1 hn2 HT.out HI.out H6.out H7.out H9.out) ?_
      rintro e ug13 hnb
      rw [HRD.out] at hnb
      obtain ⟨g1, gn1, g3, g2, gn2, g4, rfl, ho, hb⟩ := hnb
      have HUug13 := Lib.hid (HUug12.out.trans (hb.mono HUug12.out.size))
      have HXug13 := Lib.hid (HXug12.out.below hb)
      have HOug13 := Lib.hid (HOug12.out.below hb)
      have HQug13 : Hid ((∀ q, (Value.slice g1 gn1 g3).ownBlock = some q → q ≠ u0.heap.size) ∧ ∀ q, (Value.slice g2 gn2 g4).ownBlock = some q → q ≠ u0.heap.size) := Lib.hid ⟨fun q hq => by have := (ho.t.lt q hq).1; have := HXug12.out.lt; omega, fun q hq => by have := (ho.i.lt q hq).1; have := HXug12.out.lt; omega⟩
      have HGug13 := Lib.hid (ho.mono HUug12.out.size)
      refine ⟨_, rfl, HSS.out _ HUug13.out, ?_⟩
      clear hb ho
      simp only [Act.put, List.getElem_toArray, List.getElem_cons_zero, List.getElem_cons_succ, List.setIfInBounds_toArray, List.set_cons_zero, List.set_cons_succ]
      have z0 := HXug13.out.cell 0 _ rfl
      have f0 := HXug13.out.free 0
      have z1 := HXug13.out.cell 1 _ rfl
      have f1 := HXug13.out.free 1
      have z2 := HXug13.out.cell 2 _ rfl
      have f2 := HXug13.out.free 2
      have z3 := HXug13.out.cell 3 _ rfl
      have f3 := HXug13.out.free 3
      have z4 := HXug13.out.cell 4 _ rfl
      have f4 := HXug13.out.free 4
      have z5 := HXug13.out.cell 5 _ rfl
      have f5 := HXug13.out.free 5
      have z6 := HXug13.out.cell 6 _ rfl
      have f6 := HXug13.out.free 6
      refine TillZ.hand_skip (w' := ((((((ug13.setCell ⟨u0.heap.size, 0, none⟩ (.int .i64 r.1.c0)).setCell ⟨u0.heap.size, 1, none⟩ (.int .i64 r.1.c1)).setCell ⟨u0.heap.size, 2, none⟩ (.int .i64 r.1.c2)).setCell ⟨u0.heap.size, 3, none⟩ (.int .i64 r.1.c3)).setCell ⟨u0.heap.size, 4, none⟩ (.slice g1 gn1 g3)).setCell ⟨u0.heap.size, 5, none⟩ (.slice g2 gn2 g4)).setCell ⟨u0.heap.size, 6, none⟩ (.int .i64 r.2)) (by kernel_rfl) rfl rfl (by go_simp) ?_
      simp only [Act.put, List.getElem_toArray, List.getElem_cons_zero, List.getElem_cons_succ, List.setIfInBounds_toArray, List.set_cons_zero, List.set_cons_succ]
      refine TillZ.any_done (by kernel_rfl) ?_ _
      go_wp2_with fail
      go_meet
      case rel => exact ⟨u0.heap.size, g1, gn1, g3, g2, gn2, g4, rfl, (((((((HXug13.out.set (j := 0) (by simp) (.int .i64 r.1.c0)).set (j := 1) (by simp) (.int .i64 r.1.c1)).set (j := 2) (by simp) (.int .i64 r.1.c2)).set (j := 3) (by simp) (.int .i64 r.1.c3)).set (j := 4) (by simp) (.slice g1 gn1 g3)).set (j := 5) (by simp) (.slice g2 gn2 g4)).set (j := 6) (by simp) (.int .i64 r.2)), ⟨(own_other (own_other (own_other (own_other (own_other (own_other (own_other HGug13.out.t (b := u0.heap.size) HQug13.out.1 ⟨u0.heap.size, 0, none⟩ (.int .i64 r.1.c0) rfl) (b := u0.heap.size) HQug13.out.1 ⟨u0.heap.size, 1, none⟩ (.int .i64 r.1.c1) rfl) (b := u0.heap.size) HQug13.out.1 ⟨u0.heap.size, 2, none⟩ (.int .i64 r.1.c2) rfl) (b := u0.heap.size) HQug13.out.1 ⟨u0.heap.size, 3, none⟩ (.int .i64 r.1.c3) rfl) (b := u0.heap.size) HQug13.out.1 ⟨u0.heap.size, 4, none⟩ (.slice g1 gn1 g3) rfl) (b := u0.heap.size) HQug13.out.1 ⟨u0.heap.size, 5, none⟩ (.slice g2 gn2 g4) rfl) (b := u0.heap.size) HQug13.out.1 ⟨u0.heap.size, 6, none⟩ (.int .i64 r.2) rfl), (own_other (own_other (own_other (own_other (own_other (own_other (own_other HGug13.out.i (b := u0.heap.size) HQug13.out.2 ⟨u0.heap.size, 0, none⟩ (.int .i64 r.1.c0) rfl) (b := u0.heap.size) HQug13.out.2 ⟨u0.heap.size, 1, none⟩ (.int .i64 r.1.c1) rfl) (b := u0.heap.size) HQug13.out.2 ⟨u0.heap.size, 2, none⟩ (.int .i64 r.1.c2) rfl) (b := u0.heap.size) HQug13.out.2 ⟨u0.heap.size, 3, none⟩ (.int .i64 r.1.c3) rfl) (b := u0.heap.size) HQug13.out.2 ⟨u0.heap.size, 4, none⟩ (.slice g1 gn1 g3) rfl) (b := u0.heap.size) HQug13.out.2 ⟨u0.heap.size, 5, none⟩ (.slice g2 gn2 g4) rfl) (b := u0.heap.size) HQug13.out.2 ⟨u0.heap.size, 6, none⟩ (.int .i64 r.2) rfl)⟩, HQug13.out, HNBug10.out, (((((((HUug13.out.setCell (p := ⟨u0.heap.size, 0, none⟩) HNBug10.out (.int .i64 r.1.c0)).setCell (p := ⟨u0.heap.size, 1, none⟩) HNBug10.out (.int .i64 r.1.c1)).setCell (p := ⟨u0.heap.size, 2, none⟩) HNBug10.out (.int .i64 r.1.c2)).setCell (p := ⟨u0.heap.size, 3, none⟩) HNBug10.out (.int .i64 r.1.c3)).setCell (p := ⟨u0.heap.size, 4, none⟩) HNBug10.out (.slice g1 gn1 g3)).setCell (p := ⟨u0.heap.size, 5, none⟩) HNBug10.out (.slice g2 gn2 g4)).setCell (p := ⟨u0.heap.size, 6, none⟩) HNBug10.out (.int .i64 r.2))⟩
  case rest =>
    obtain ⟨nb, g1, gn1, g3, g2, gn2, g4, rfl, hXg, hOg, hQg, hnb, hU⟩ := hcut
    have HU := Lib.hid hU
    have HXW := Lib.hid hXg
    have HOW := Lib.hid hOg
    have HNW := Lib.hid hnb
    clear hU hXg hOg hQg hnb HB2
    have x0 := ((HLB _ HU.out).out).cell 0 _ rfl
    have x1 := ((HLB _ HU.out).out).cell 1 _ rfl
    have x2 := ((HLB _ HU.out).out).cell 2 _ rfl
    have x3 := ((HLB _ HU.out).out).cell 3 _ rfl
    have x4 := ((HLB _ HU.out).out).cell 4 _ rfl
    have x5 := ((HLB _ HU.out).out).cell 5 _ rfl
    go_wp2_with fail
    refine (toBook_any c0 c1 c2 c3 a1 a2 n1 n2 a3 a4 ts is _ (HRW _ HU.out).out hn1 hn2).mono ?_
    rintro e v4 ⟨k1, k3, k2, k4, rfl, ho, hb⟩
    obtain ⟨V, hV⟩ : ∃ V, V = v4.alloc (.cells #[.int .i64 c0, .int .i64 c1, .int .i64 c2, .int .i64 c3, .slice k1 n1 k3, .slice k2 n2 k4] 40) := ⟨_, rfl⟩
    have hb' : Below wc.heap.size wc V := by rw [hV]; exact hb.alloc hb.size _
    have HX := Lib.hid (show BoxC V v4.heap.size [.int .i64 c0, .int .i64 c1, .int .i64 c2, .int .i64 c3, .slice k1 n1 k3, .slice k2 n2 k4] by rw [hV]; exact BoxC.made _ _ _)
    have HOX := Lib.hid (ho.below (show Below v4.heap.size v4 V by rw [hV]; exact (Below.refl _ _).alloc (Nat.le_refl _) _))
    have HNX := Lib.hid (Nat.le_trans HU.out.size hb.size)
    have HNL : Hid (nb < wc.heap.size) := Lib.hid HXW.out.lt
    have HDT : Hid (Disj (.slice g1 gn1 g3) (.slice k1 n1 k3) ∧ Disj (.slice g1 gn1 g3) (.slice k2 n2 k4) ∧ Disj (.slice g2 gn2 g4) (.slice k1 n1 k3) ∧ Disj (.slice g2 gn2 g4) (.slice k2 n2 k4)) := Lib.hid ⟨own_disj HOW.out.t ho.t, own_disj HOW.out.t ho.i, own_disj HOW.out.i ho.t, own_disj HOW.out.i ho.i⟩
    have HKB : Hid ((∀ q, (Value.slice k1 n1 k3).ownBlock = some q → nb < q ∧ W.heap.size ≤ q ∧ q < V.heap.size) ∧ (∀ q, (Value.slice k2 n2 k4).ownBlock = some q → nb < q ∧ W.heap.size ≤ q ∧ q < V.heap.size)) := Lib.hid ⟨fun q hq => by have := HOX.out.t.lt q hq; have := HNL.out; have := HU.out.size; omega, fun q hq => by have := HOX.out.i.lt q hq; have := HNL.out; have := HU.out.size; omega⟩
    have HUV := Lib.hid (HU.out.trans (hb'.mono HU.out.size))
    have HNV : Hid (nb < V.heap.size) := Lib.hid (Nat.lt_of_lt_of_le HNL.out hb'.size)
    have HXW2 := Lib.hid (HXW.out.below hb')
    have HOW2 := Lib.hid (HOW.out.below hb')
    clear hb hb' ho HXW HOW x0 x1 x2 x3 x4 x5
    go_wp2_with fail
    rw [← hV]
    clear hV
    have x0 := (HX.out).cell 0 _ rfl
    have x1 := (HX.out).cell 1 _ rfl
    have x2 := (HX.out).cell 2 _ rfl
    have x3 := (HX.out).cell 3 _ rfl
    have x4 := (HX.out).cell 4 _ rfl
    have x5 := (HX.out).cell 5 _ rfl
    have y0 := ((HLD _ HUV.out).out).cell 0 _ rfl
    have y1 := ((HLD _ HUV.out).out).cell 1 _ rfl
    have y2 := ((HLD _ HUV.out).out).cell 2 _ rfl
    have y3 := ((HLD _ HUV.out).out).cell 3 _ rfl
    have y4 := ((HLD _ HUV.out).out).cell 4 _ rfl
    have y5 := ((HLD _ HUV.out).out).cell 5 _ rfl
    have y6 := ((HLD _ HUV.out).out).cell 6 _ rfl
    have y7 := ((HLD _ HUV.out).out).cell 7 _ rfl
    have y8 := ((HLD _ HUV.out).out).cell 8 _ rfl
    have y9 := ((HLD _ HUV.out).out).cell 9 _ rfl
    go_wp2_with fail
    clear x0 x1 x2 x3 x4 x5 y0 y1 y2 y3 y4 y5 y6 y7 y8 y9
    have HS2 : Hid (∀ u, Below V.heap.size V u → (BoxC u v4.heap.size [.int .i64 c0, .int .i64 c1, .int .i64 c2, .int .i64 c3, .slice k1 n1 k3, .slice k2 n2 k4] ∧ BoxC u (w.heap.size + 1) [.int .i64 qb0, .int .i64 qb1, .int .i64 qb2, .int .i64 qb3, .int .i64 qb4, .int .i64 qb5, .string qb6, .string qb7, .int .i64 qb8, .string qb9])) := Lib.hid (fun u hu => ⟨HX.out.below hu, (HLD u (HUV.out.trans (hu.mono HUV.out.size))).out⟩)
    go_upto_region 10 with fail
    go_cut [8] from 23 (fun v u => ∃ nh p1 pn1 p3 p2 pn2 p4, v = .pointer (some ⟨nh, 0, none⟩) ∧ BoxC u nh [.int .i64 r.1.c0, .int .i64 r.1.c1, .int .i64 r.1.c2, .int .i64 r.1.c3, .slice p1 pn1 p3, .slice p2 pn2 p4, .int .i64 r.2] ∧ BkO u V.heap.size p1 pn1 p3 p2 pn2 p4 r.1.ts r.1.is ∧ ((∀ q, (Value.slice p1 pn1 p3).ownBlock = some q → q ≠ nh) ∧ ∀ q, (Value.slice p2 pn2 p4).ownBlock = some q → q ≠ nh) ∧ V.heap.size ≤ nh ∧ Below V.heap.size V u)
    case first =>
      refine TillZ.region (t := 5) hmx (fun u => BoxC u v4.heap.size [.int .i64 c0, .int .i64 c1, .int .i64 c2, .int .i64 c3, .slice k1 n1 k3, .slice k2 n2 k4] ∧ BoxC u (w.heap.size + 1) [.int .i64 qb0, .int .i64 qb1, .int .i64 qb2, .int .i64 qb3, .int .i64 qb4, .int .i64 qb5, .string qb6, .string qb7, .int .i64 qb8, .string qb9]) ?_
      have HV0 : Hid (Below V.heap.size V V.drew) := Lib.hid (Below.refl _ _).drew
      have hS0 := HS2.out _ HV0.out
      refine TillZ.take (i := 0) (v := .agg #[.int .i64 c0, .int .i64 c1, .int .i64 c2, .int .i64 c3, .slice k1 n1 k3, .slice k2 n2 k4]) rfl rfl rfl (by kernel_rfl) (by kernel_rfl) (by kernel_rfl) (by kernel_rfl) hS0 (fun u hu => by have z0 := hu.1.cell 0 _ rfl; have z1 := hu.1.cell 1 _ rfl; have z2 := hu.1.cell 2 _ rfl; have z3 := hu.1.cell 3 _ rfl; have z4 := hu.1.cell 4 _ rfl; have z5 := hu.1.cell 5 _ rfl; go_simp) ?_
      simp only [Act.put, List.getElem_toArray, List.getElem_cons_zero, List.getElem_cons_succ, List.setIfInBounds_toArray, List.set_cons_zero, List.set_cons_succ]
      refine TillZ.take (i := 1) (v := .agg #[.int .i64 qb0, .int .i64 qb1, .int .i64 qb2, .int .i64 qb3, .int .i64 qb4, .int .i64 qb5, .string qb6, .string qb7, .int .i64 qb8, .string qb9]) rfl rfl rfl (by kernel_rfl) (by kernel_rfl) (by kernel_rfl) (by kernel_rfl) hS0 (fun u hu => by have z0 := hu.2.cell 0 _ rfl; have z1 := hu.2.cell 1 _ rfl; have z2 := hu.2.cell 2 _ rfl; have z3 := hu.2.cell 3 _ rfl; have z4 := hu.2.cell 4 _ rfl; have z5 := hu.2.cell 5 _ rfl; have z6 := hu.2.cell 6 _ rfl; have z7 := hu.2.cell 7 _ rfl; have z8 := hu.2.cell 8 _ rfl; have z9 := hu.2.cell 9 _ rfl; go_simp) ?_
      simp only [Act.put, List.getElem_toArray, List.getElem_cons_zero, List.getElem_cons_succ, List.setIfInBounds_toArray, List.set_cons_zero, List.set_cons_succ]
      generalize hvd : V.drew = t0 at *
      clear hvd
      refine TillZ.two (i := 2) (j := 4) (by kernel_rfl) ?_ ?_
      · skip
        refine TillZ.callz (i := 2) (f := 8) (args := #[.agg #[.int .i64 qb0, .int .i64 qb1, .int .i64 qb2, .int .i64 qb3, .int .i64 qb4, .int .i64 qb5, .string qb6, .string qb7, .int .i64 qb8, .string qb9]]) rfl rfl rfl (by go_simp) ?_
        refine Calls.mono (toDeed_any qb0 qb1 qb2 qb3 qb4 qb5 qb6 qb7 qb8 qb9 t0) ?_
        rintro e up1 ⟨rfl, hb⟩
        have HUup1 := Lib.hid (HV0.out.trans (hb.mono HV0.out.size))
        refine ⟨_, rfl, HS2.out _ HUup1.out, ?_⟩
        clear hb
        simp only [Act.put, List.getElem_toArray, List.getElem_cons_zero, List.getElem_cons_succ, List.setIfInBounds_toArray, List.set_cons_zero, List.set_cons_succ]
        refine TillZ.two (i := 3) (j := 4) (by kernel_rfl) ?_ ?_
        · skip
          refine TillZ.callz (i := 3) (f := 9) (args := #[.agg #[.int .i64 c0, .int .i64 c1, .int .i64 c2, .int .i64 c3, .slice k1 n1 k3, .slice k2 n2 k4], .agg #[.int .i64 qb0, .int .i64 qb1, .int .i64 qb2, .int .i64 qb3, .int .i64 qb4, .int .i64 qb5, .string qb6, .string qb7, .int .i64 qb8, .string qb9]]) rfl rfl rfl (by go_simp) ?_
          refine Calls.mono (implBookDo_any ⟨c0, c1, c2, c3, ts, is⟩ k1 k2 n1 n2 k3 k4 qb0 qb1 qb2 qb3 qb4 qb5 qb6 qb7 qb8 qb9 up1 (HOX.out.below HUup1.out).read hn1 hn2 HT.out HI.out H6.out H7.out H9.out) ?_
          rintro e up2 hnb
          rw [HRD.out] at hnb
          obtain ⟨p1, pn1, p3, p2, pn2, p4, rfl, ho, hb⟩ := hnb
          have HUup2 := Lib.hid (HUup1.out.trans (hb.mono HUup1.out.size))
          have HGup2 := Lib.hid (ho.mono HUup1.out.size)
          refine ⟨_, rfl, HS2.out _ HUup2.out, ?_⟩
          clear hb ho
          simp only [Act.put, List.getElem_toArray, List.getElem_cons_zero, List.getElem_cons_succ, List.setIfInBounds_toArray, List.set_cons_zero, List.set_cons_succ]
          refine TillZ.one (i := 4) (by kernel_rfl) ?_
          refine TillZ.opz (i := 4) (v := .pointer (some ⟨up2.heap.size, 0, none⟩)) (w' := up2.alloc (.cells #[.int .i64 0, .int .i64 0, .int .i64 0, .int .i64 0, .slice none 0 0, .slice none 0 0, .int .i64 0] 42)) rfl rfl rfl (by go_simp) (HS2.out _ (HUup2.out.alloc HUup2.out.size _)) ?_
          simp only [Act.put, List.getElem_toArray, List.getElem_cons_zero, List.getElem_cons_succ, List.setIfInBounds_toArray, List.set_cons_zero, List.set_cons_succ]
          have HUup3 := Lib.hid (HUup2.out.alloc HUup2.out.size (.cells #[.int .i64 0, .int .i64 0, .int .i64 0, .int .i64 0, .slice none 0 0, .slice none 0 0, .int .i64 0] 42))
          have HXup3 := Lib.hid (BoxC.made up2 #[.int .i64 0, .int .i64 0, .int .i64 0, .int .i64 0, .slice none 0 0, .slice none 0 0, .int .i64 0] 42)
          have HNBup3 := Lib.hid HUup2.out.size
          have HGup3 := Lib.hid (HGup2.out.below ((Below.refl up2.heap.size up2).alloc (Nat.le_refl _) (.cells #[.int .i64 0, .int .i64 0, .int .i64 0, .int .i64 0, .slice none 0 0, .slice none 0 0, .int .i64 0] 42)))
          have HQup3 : Hid ((∀ q, (Value.slice p1 pn1 p3).ownBlock = some q → q ≠ up2.heap.size) ∧ ∀ q, (Value.slice p2 pn2 p4).ownBlock = some q → q ≠ up2.heap.size) := Lib.hid ⟨fun q hq => by have := (HGup2.out.t.lt q hq).2; omega, fun q hq => by have := (HGup2.out.i.lt q hq).2; omega⟩
          generalize hwup3 : up2.alloc (.cells #[.int .i64 0, .int .i64 0, .int .i64 0, .int .i64 0, .slice none 0 0, .slice none 0 0, .int .i64 0] 42) = up3 at *
          clear hwup3
          have z0 := HXup3.out.cell 0 _ rfl
          have f0 := HXup3.out.free 0
          have z1 := HXup3.out.cell 1 _ rfl
          have f1 := HXup3.out.free 1
          have z2 := HXup3.out.cell 2 _ rfl
          have f2 := HXup3.out.free 2
          have z3 := HXup3.out.cell 3 _ rfl
          have f3 := HXup3.out.free 3
          have z4 := HXup3.out.cell 4 _ rfl
          have f4 := HXup3.out.free 4
          have z5 := HXup3.out.cell 5 _ rfl
          have f5 := HXup3.out.free 5
          have z6 := HXup3.out.cell 6 _ rfl
          have f6 := HXup3.out.free 6
          refine TillZ.hand_skip (w' := ((((((up3.setCell ⟨up2.heap.size, 0, none⟩ (.int .i64 r.1.c0)).setCell ⟨up2.heap.size, 1, none⟩ (.int .i64 r.1.c1)).setCell ⟨up2.heap.size, 2, none⟩ (.int .i64 r.1.c2)).setCell ⟨up2.heap.size, 3, none⟩ (.int .i64 r.1.c3)).setCell ⟨up2.heap.size, 4, none⟩ (.slice p1 pn1 p3)).setCell ⟨up2.heap.size, 5, none⟩ (.slice p2 pn2 p4)).setCell ⟨up2.heap.size, 6, none⟩ (.int .i64 r.2)) (by kernel_rfl) rfl rfl (by go_simp) ?_
          simp only [Act.put, List.getElem_toArray, List.getElem_cons_zero, List.getElem_cons_succ, List.setIfInBounds_toArray, List.set_cons_zero, List.set_cons_succ]
          refine TillZ.any_done (by kernel_rfl) ?_ _
          go_wp2_with fail
          go_meet
          case rel => exact ⟨up2.heap.size, p1, pn1, p3, p2, pn2, p4, rfl, (((((((HXup3.out.set (j := 0) (by simp) (.int .i64 r.1.c0)).set (j := 1) (by simp) (.int .i64 r.1.c1)).set (j := 2) (by simp) (.int .i64 r.1.c2)).set (j := 3) (by simp) (.int .i64 r.1.c3)).set (j := 4) (by simp) (.slice p1 pn1 p3)).set (j := 5) (by simp) (.slice p2 pn2 p4)).set (j := 6) (by simp) (.int .i64 r.2)), ⟨(own_other (own_other (own_other (own_other (own_other (own_other (own_other HGup3.out.t (b := up2.heap.size) HQup3.out.1 ⟨up2.heap.size, 0, none⟩ (.int .i64 r.1.c0) rfl) (b := up2.heap.size) HQup3.out.1 ⟨up2.heap.size, 1, none⟩ (.int .i64 r.1.c1) rfl) (b := up2.heap.size) HQup3.out.1 ⟨up2.heap.size, 2, none⟩ (.int .i64 r.1.c2) rfl) (b := up2.heap.size) HQup3.out.1 ⟨up2.heap.size, 3, none⟩ (.int .i64 r.1.c3) rfl) (b := up2.heap.size) HQup3.out.1 ⟨up2.heap.size, 4, none⟩ (.slice p1 pn1 p3) rfl) (b := up2.heap.size) HQup3.out.1 ⟨up2.heap.size, 5, none⟩ (.slice p2 pn2 p4) rfl) (b := up2.heap.size) HQup3.out.1 ⟨up2.heap.size, 6, none⟩ (.int .i64 r.2) rfl), (own_other (own_other (own_other (own_other (own_other (own_other (own_other HGup3.out.i (b := up2.heap.size) HQup3.out.2 ⟨up2.heap.size, 0, none⟩ (.int .i64 r.1.c0) rfl) (b := up2.heap.size) HQup3.out.2 ⟨up2.heap.size, 1, none⟩ (.int .i64 r.1.c1) rfl) (b := up2.heap.size) HQup3.out.2 ⟨up2.heap.size, 2, none⟩ (.int .i64 r.1.c2) rfl) (b := up2.heap.size) HQup3.out.2 ⟨up2.heap.size, 3, none⟩ (.int .i64 r.1.c3) rfl) (b := up2.heap.size) HQup3.out.2 ⟨up2.heap.size, 4, none⟩ (.slice p1 pn1 p3) rfl) (b := up2.heap.size) HQup3.out.2 ⟨up2.heap.size, 5, none⟩ (.slice p2 pn2 p4) rfl) (b := up2.heap.size) HQup3.out.2 ⟨up2.heap.size, 6, none⟩ (.int .i64 r.2) rfl)⟩, HQup3.out, HNBup3.out, (((((((HUup3.out.setCell (p := ⟨up2.heap.size, 0, none⟩) HNBup3.out (.int .i64 r.1.c0)).setCell (p := ⟨up2.heap.size, 1, none⟩) HNBup3.out (.int .i64 r.1.c1)).setCell (p := ⟨up2.heap.size, 2, none⟩) HNBup3.out (.int .i64 r.1.c2)).setCell (p := ⟨up2.heap.size, 3, none⟩) HNBup3.out (.int .i64 r.1.c3)).setCell (p := ⟨up2.heap.size, 4, none⟩) HNBup3.out (.slice p1 pn1 p3)).setCell (p := ⟨up2.heap.size, 5, none⟩) HNBup3.out (.slice p2 pn2 p4)).setCell (p := ⟨up2.heap.size, 6, none⟩) HNBup3.out (.int .i64 r.2))⟩
        · skip
          refine TillZ.opz (i := 4) (v := .pointer (some ⟨up1.heap.size, 0, none⟩)) (w' := up1.alloc (.cells #[.int .i64 0, .int .i64 0, .int .i64 0, .int .i64 0, .slice none 0 0, .slice none 0 0, .int .i64 0] 42)) rfl rfl rfl (by go_simp) (HS2.out _ (HUup1.out.alloc HUup1.out.size _)) ?_
          simp only [Act.put, List.getElem_toArray, List.getElem_cons_zero, List.getElem_cons_succ, List.setIfInBounds_toArray, List.set_cons_zero, List.set_cons_succ]
          have HUup4 := Lib.hid (HUup1.out.alloc HUup1.out.size (.cells #[.int .i64 0, .int .i64 0, .int .i64 0, .int .i64 0, .slice none 0 0, .slice none 0 0, .int .i64 0] 42))
          have HXup4 := Lib.hid (BoxC.made up1 #[.int .i64 0, .int .i64 0, .int .i64 0, .int .i64 0, .slice none 0 0, .slice none 0 0, .int .i64 0] 42)
          have HNBup4 := Lib.hid HUup1.out.size
          generalize hwup4 : up1.alloc (.cells #[.int .i64 0, .int .i64 0, .int .i64 0, .int .i64 0, .slice none 0 0, .slice none 0 0, .int .i64 0] 42) = up4 at *
          clear hwup4
          refine TillZ.one (i := 3) (by kernel_rfl) ?_
          refine TillZ.callz (i := 3) (f := 9) (args := #[.agg #[.int .i64 c0, .int .i64 c1, .int .i64 c2, .int .i64 c3, .slice k1 n1 k3, .slice k2 n2 k4], .agg #[.int .i64 qb0, .int .i64 qb1, .int .i64 qb2, .int .i64 qb3, .int .i64 qb4, .int .i64 qb5, .string qb6, .string qb7, .int .i64 qb8, .string qb9]]) rfl rfl rfl (by go_simp) ?_
          refine Calls.mono (implBookDo_any ⟨c0, c1, c2, c3, ts, is⟩ k1 k2 n1 n2 k3 k4 qb0 qb1 qb2 qb3 qb4 qb5 qb6 qb7 qb8 qb9 up4 (HOX.out.below HUup4.out).read hn1 hn2 HT.out HI.out H6.out H7.out H9.out) ?_
          rintro e up5 hnb
          rw [HRD.out] at hnb
          obtain ⟨p1, pn1, p3, p2, pn2, p4, rfl, ho, hb⟩ := hnb
          have HUup5 := Lib.hid (HUup4.out.trans (hb.mono HUup4.out.size))
          have HXup5 := Lib.hid (HXup4.out.below hb)
          have HQup5 : Hid ((∀ q, (Value.slice p1 pn1 p3).ownBlock = some q → q ≠ up1.heap.size) ∧ ∀ q, (Value.slice p2 pn2 p4).ownBlock = some q → q ≠ up1.heap.size) := Lib.hid ⟨fun q hq => by have := (ho.t.lt q hq).1; have := HXup4.out.lt; omega, fun q hq => by have := (ho.i.lt q hq).1; have := HXup4.out.lt; omega⟩
          have HGup5 := Lib.hid (ho.mono HUup4.out.size)
          refine ⟨_, rfl, HS2.out _ HUup5.out, ?_⟩
          clear hb ho
          simp only [Act.put, List.getElem_toArray, List.getElem_cons_zero, List.getElem_cons_succ, List.setIfInBounds_toArray, List.set_cons_zero, List.set_cons_succ]
          have z0 := HXup5.out.cell 0 _ rfl
          have f0 := HXup5.out.free 0
          have z1 := HXup5.out.cell 1 _ rfl
          have f1 := HXup5.out.free 1
          have z2 := HXup5.out.cell 2 _ rfl
          have f2 := HXup5.out.free 2
          have z3 := HXup5.out.cell 3 _ rfl
          have f3 := HXup5.out.free 3
          have z4 := HXup5.out.cell 4 _ rfl
          have f4 := HXup5.out.free 4
          have z5 := HXup5.out.cell 5 _ rfl
          have f5 := HXup5.out.free 5
          have z6 := HXup5.out.cell 6 _ rfl
          have f6 := HXup5.out.free 6
          refine TillZ.hand_skip (w' := ((((((up5.setCell ⟨up1.heap.size, 0, none⟩ (.int .i64 r.1.c0)).setCell ⟨up1.heap.size, 1, none⟩ (.int .i64 r.1.c1)).setCell ⟨up1.heap.size, 2, none⟩ (.int .i64 r.1.c2)).setCell ⟨up1.heap.size, 3, none⟩ (.int .i64 r.1.c3)).setCell ⟨up1.heap.size, 4, none⟩ (.slice p1 pn1 p3)).setCell ⟨up1.heap.size, 5, none⟩ (.slice p2 pn2 p4)).setCell ⟨up1.heap.size, 6, none⟩ (.int .i64 r.2)) (by kernel_rfl) rfl rfl (by go_simp) ?_
          simp only [Act.put, List.getElem_toArray, List.getElem_cons_zero, List.getElem_cons_succ, List.setIfInBounds_toArray, List.set_cons_zero, List.set_cons_succ]
          refine TillZ.any_done (by kernel_rfl) ?_ _
          go_wp2_with fail
          go_meet
          case rel => exact ⟨up1.heap.size, p1, pn1, p3, p2, pn2, p4, rfl, (((((((HXup5.out.set (j := 0) (by simp) (.int .i64 r.1.c0)).set (j := 1) (by simp) (.int .i64 r.1.c1)).set (j := 2) (by simp) (.int .i64 r.1.c2)).set (j := 3) (by simp) (.int .i64 r.1.c3)).set (j := 4) (by simp) (.slice p1 pn1 p3)).set (j := 5) (by simp) (.slice p2 pn2 p4)).set (j := 6) (by simp) (.int .i64 r.2)), ⟨(own_other (own_other (own_other (own_other (own_other (own_other (own_other HGup5.out.t (b := up1.heap.size) HQup5.out.1 ⟨up1.heap.size, 0, none⟩ (.int .i64 r.1.c0) rfl) (b := up1.heap.size) HQup5.out.1 ⟨up1.heap.size, 1, none⟩ (.int .i64 r.1.c1) rfl) (b := up1.heap.size) HQup5.out.1 ⟨up1.heap.size, 2, none⟩ (.int .i64 r.1.c2) rfl) (b := up1.heap.size) HQup5.out.1 ⟨up1.heap.size, 3, none⟩ (.int .i64 r.1.c3) rfl) (b := up1.heap.size) HQup5.out.1 ⟨up1.heap.size, 4, none⟩ (.slice p1 pn1 p3) rfl) (b := up1.heap.size) HQup5.out.1 ⟨up1.heap.size, 5, none⟩ (.slice p2 pn2 p4) rfl) (b := up1.heap.size) HQup5.out.1 ⟨up1.heap.size, 6, none⟩ (.int .i64 r.2) rfl), (own_other (own_other (own_other (own_other (own_other (own_other (own_other HGup5.out.i (b := up1.heap.size) HQup5.out.2 ⟨up1.heap.size, 0, none⟩ (.int .i64 r.1.c0) rfl) (b := up1.heap.size) HQup5.out.2 ⟨up1.heap.size, 1, none⟩ (.int .i64 r.1.c1) rfl) (b := up1.heap.size) HQup5.out.2 ⟨up1.heap.size, 2, none⟩ (.int .i64 r.1.c2) rfl) (b := up1.heap.size) HQup5.out.2 ⟨up1.heap.size, 3, none⟩ (.int .i64 r.1.c3) rfl) (b := up1.heap.size) HQup5.out.2 ⟨up1.heap.size, 4, none⟩ (.slice p1 pn1 p3) rfl) (b := up1.heap.size) HQup5.out.2 ⟨up1.heap.size, 5, none⟩ (.slice p2 pn2 p4) rfl) (b := up1.heap.size) HQup5.out.2 ⟨up1.heap.size, 6, none⟩ (.int .i64 r.2) rfl)⟩, HQup5.out, HNBup4.out, (((((((HUup5.out.setCell (p := ⟨up1.heap.size, 0, none⟩) HNBup4.out (.int .i64 r.1.c0)).setCell (p := ⟨up1.heap.size, 1, none⟩) HNBup4.out (.int .i64 r.1.c1)).setCell (p := ⟨up1.heap.size, 2, none⟩) HNBup4.out (.int .i64 r.1.c2)).setCell (p := ⟨up1.heap.size, 3, none⟩) HNBup4.out (.int .i64 r.1.c3)).setCell (p := ⟨up1.heap.size, 4, none⟩) HNBup4.out (.slice p1 pn1 p3)).setCell (p := ⟨up1.heap.size, 5, none⟩) HNBup4.out (.slice p2 pn2 p4)).setCell (p := ⟨up1.heap.size, 6, none⟩) HNBup4.out (.int .i64 r.2))⟩
      · skip
        refine TillZ.opz (i := 4) (v := .pointer (some ⟨t0.heap.size, 0, none⟩)) (w' := t0.alloc (.cells #[.int .i64 0, .int .i64 0, .int .i64 0, .int .i64 0, .slice none 0 0, .slice none 0 0, .int .i64 0] 42)) rfl rfl rfl (by go_simp) (HS2.out _ (HV0.out.alloc HV0.out.size _)) ?_
        simp only [Act.put, List.getElem_toArray, List.getElem_cons_zero, List.getElem_cons_succ, List.setIfInBounds_toArray, List.set_cons_zero, List.set_cons_succ]
        have HUup6 := Lib.hid (HV0.out.alloc HV0.out.size (.cells #[.int .i64 0, .int .i64 0, .int .i64 0, .int .i64 0, .slice none 0 0, .slice none 0 0, .int .i64 0] 42))
        have HXup6 := Lib.hid (BoxC.made t0 #[.int .i64 0, .int .i64 0, .int .i64 0, .int .i64 0, .slice none 0 0, .slice none 0 0, .int .i64 0] 42)
        have HNBup6 := Lib.hid HV0.out.size
        generalize hwup6 : t0.alloc (.cells #[.int .i64 0, .int .i64 0, .int .i64 0, .int .i64 0, .slice none 0 0, .slice none 0 0, .int .i64 0] 42) = up6 at *
        clear hwup6
        refine TillZ.one (i := 2) (by kernel_rfl) ?_
        refine TillZ.callz (i := 2) (f := 8) (args := #[.agg #[.int .i64 qb0, .int .i64 qb1, .int .i64 qb2, .int .i64 qb3, .int .i64 qb4, .int .i64 qb5, .string qb6, .string qb7, .int .i64 qb8, .string qb9]]) rfl rfl rfl (by go_simp) ?_
        refine Calls.mono (toDeed_any qb0 qb1 qb2 qb3 qb4 qb5 qb6 qb7 qb8 qb9 up6) ?_
        rintro e up7 ⟨rfl, hb⟩
        have HUup7 := Lib.hid (HUup6.out.trans (hb.mono HUup6.out.size))
        have HXup7 := Lib.hid (HXup6.out.below hb)
        refine ⟨_, rfl, HS2.out _ HUup7.out, ?_⟩
        clear hb
        simp only [Act.put, List.getElem_toArray, List.getElem_cons_zero, List.getElem_cons_succ, List.setIfInBounds_toArray, List.set_cons_zero, List.set_cons_succ]
        refine TillZ.one (i := 3) (by kernel_rfl) ?_
        refine TillZ.callz (i := 3) (f := 9) (args := #[.agg #[.int .i64 c0, .int .i64 c1, .int .i64 c2, .int .i64 c3, .slice k1 n1 k3, .slice k2 n2 k4], .agg #[.int .i64 qb0, .int .i64 qb1, .int .i64 qb2, .int .i64 qb3, .int .i64 qb4, .int .i64 qb5, .string qb6, .string qb7, .int .i64 qb8, .string qb9]]) rfl rfl rfl (by go_simp) ?_
        refine Calls.mono (implBookDo_any ⟨c0, c1, c2, c3, ts, is⟩ k1 k2 n1 n2 k3 k4 qb0 qb1 qb2 qb3 qb4 qb5 qb6 qb7 qb8 qb9 up7 (HOX.out.below HUup7.out).read hn1 hn2 HT.out HI.out H6.out H7.out H9.out) ?_
        rintro e up8 hnb
        rw [HRD.out] at hnb
        obtain ⟨p1, pn1, p3, p2, pn2, p4, rfl, ho, hb⟩ := hnb
        have HUup8 := Lib.hid (HUup7.out.trans (hb.mono HUup7.out.size))
        have HXup8 := Lib.hid (HXup7.out.below hb)
        have HQup8 : Hid ((∀ q, (Value.slice p1 pn1 p3).ownBlock = some q → q ≠ t0.heap.size) ∧ ∀ q, (Value.slice p2 pn2 p4).ownBlock = some q → q ≠ t0.heap.size) := Lib.hid ⟨fun q hq => by have := (ho.t.lt q hq).1; have := HXup7.out.lt; omega, fun q hq => by have := (ho.i.lt q hq).1; have := HXup7.out.lt; omega⟩
        have HGup8 := Lib.hid (ho.mono HUup7.out.size)
        refine ⟨_, rfl, HS2.out _ HUup8.out, ?_⟩
        clear hb ho
        simp only [Act.put, List.getElem_toArray, List.getElem_cons_zero, List.getElem_cons_succ, List.setIfInBounds_toArray, List.set_cons_zero, List.set_cons_succ]
        have z0 := HXup8.out.cell 0 _ rfl
        have f0 := HXup8.out.free 0
        have z1 := HXup8.out.cell 1 _ rfl
        have f1 := HXup8.out.free 1
        have z2 := HXup8.out.cell 2 _ rfl
        have f2 := HXup8.out.free 2
        have z3 := HXup8.out.cell 3 _ rfl
        have f3 := HXup8.out.free 3
        have z4 := HXup8.out.cell 4 _ rfl
        have f4 := HXup8.out.free 4
        have z5 := HXup8.out.cell 5 _ rfl
        have f5 := HXup8.out.free 5
        have z6 := HXup8.out.cell 6 _ rfl
        have f6 := HXup8.out.free 6
        refine TillZ.hand_skip (w' := ((((((up8.setCell ⟨t0.heap.size, 0, none⟩ (.int .i64 r.1.c0)).setCell ⟨t0.heap.size, 1, none⟩ (.int .i64 r.1.c1)).setCell ⟨t0.heap.size, 2, none⟩ (.int .i64 r.1.c2)).setCell ⟨t0.heap.size, 3, none⟩ (.int .i64 r.1.c3)).setCell ⟨t0.heap.size, 4, none⟩ (.slice p1 pn1 p3)).setCell ⟨t0.heap.size, 5, none⟩ (.slice p2 pn2 p4)).setCell ⟨t0.heap.size, 6, none⟩ (.int .i64 r.2)) (by kernel_rfl) rfl rfl (by go_simp) ?_
        simp only [Act.put, List.getElem_toArray, List.getElem_cons_zero, List.getElem_cons_succ, List.setIfInBounds_toArray, List.set_cons_zero, List.set_cons_succ]
        refine TillZ.any_done (by kernel_rfl) ?_ _
        go_wp2_with fail
        go_meet
        case rel => exact ⟨t0.heap.size, p1, pn1, p3, p2, pn2, p4, rfl, (((((((HXup8.out.set (j := 0) (by simp) (.int .i64 r.1.c0)).set (j := 1) (by simp) (.int .i64 r.1.c1)).set (j := 2) (by simp) (.int .i64 r.1.c2)).set (j := 3) (by simp) (.int .i64 r.1.c3)).set (j := 4) (by simp) (.slice p1 pn1 p3)).set (j := 5) (by simp) (.slice p2 pn2 p4)).set (j := 6) (by simp) (.int .i64 r.2)), ⟨(own_other (own_other (own_other (own_other (own_other (own_other (own_other HGup8.out.t (b := t0.heap.size) HQup8.out.1 ⟨t0.heap.size, 0, none⟩ (.int .i64 r.1.c0) rfl) (b := t0.heap.size) HQup8.out.1 ⟨t0.heap.size, 1, none⟩ (.int .i64 r.1.c1) rfl) (b := t0.heap.size) HQup8.out.1 ⟨t0.heap.size, 2, none⟩ (.int .i64 r.1.c2) rfl) (b := t0.heap.size) HQup8.out.1 ⟨t0.heap.size, 3, none⟩ (.int .i64 r.1.c3) rfl) (b := t0.heap.size) HQup8.out.1 ⟨t0.heap.size, 4, none⟩ (.slice p1 pn1 p3) rfl) (b := t0.heap.size) HQup8.out.1 ⟨t0.heap.size, 5, none⟩ (.slice p2 pn2 p4) rfl) (b := t0.heap.size) HQup8.out.1 ⟨t0.heap.size, 6, none⟩ (.int .i64 r.2) rfl), (own_other (own_other (own_other (own_other (own_other (own_other (own_other HGup8.out.i (b := t0.heap.size) HQup8.out.2 ⟨t0.heap.size, 0, none⟩ (.int .i64 r.1.c0) rfl) (b := t0.heap.size) HQup8.out.2 ⟨t0.heap.size, 1, none⟩ (.int .i64 r.1.c1) rfl) (b := t0.heap.size) HQup8.out.2 ⟨t0.heap.size, 2, none⟩ (.int .i64 r.1.c2) rfl) (b := t0.heap.size) HQup8.out.2 ⟨t0.heap.size, 3, none⟩ (.int .i64 r.1.c3) rfl) (b := t0.heap.size) HQup8.out.2 ⟨t0.heap.size, 4, none⟩ (.slice p1 pn1 p3) rfl) (b := t0.heap.size) HQup8.out.2 ⟨t0.heap.size, 5, none⟩ (.slice p2 pn2 p4) rfl) (b := t0.heap.size) HQup8.out.2 ⟨t0.heap.size, 6, none⟩ (.int .i64 r.2) rfl)⟩, HQup8.out, HNBup6.out, (((((((HUup8.out.setCell (p := ⟨t0.heap.size, 0, none⟩) HNBup6.out (.int .i64 r.1.c0)).setCell (p := ⟨t0.heap.size, 1, none⟩) HNBup6.out (.int .i64 r.1.c1)).setCell (p := ⟨t0.heap.size, 2, none⟩) HNBup6.out (.int .i64 r.1.c2)).setCell (p := ⟨t0.heap.size, 3, none⟩) HNBup6.out (.int .i64 r.1.c3)).setCell (p := ⟨t0.heap.size, 4, none⟩) HNBup6.out (.slice p1 pn1 p3)).setCell (p := ⟨t0.heap.size, 5, none⟩) HNBup6.out (.slice p2 pn2 p4)).setCell (p := ⟨t0.heap.size, 6, none⟩) HNBup6.out (.int .i64 r.2))⟩
    case rest =>
      obtain ⟨nh, p1, pn1, p3, p2, pn2, p4, rfl, hXh, hOh, hQh, hnh, hT⟩ := hcut
      have HT2 := Lib.hid hT
      have HXG := Lib.hid hXh
      have HOG := Lib.hid hOh
      have HNG := Lib.hid hnh
      have HQG := Lib.hid hQh
      have HU2 := Lib.hid (HUV.out.trans (hT.mono HUV.out.size))
      have HXW3 := Lib.hid (HXW2.out.below hT)
      have HOW3 := Lib.hid (HOW2.out.below hT)
      have HX3 := Lib.hid (HX.out.below hT)
      have HOX3 := Lib.hid (HOX.out.below hT)
      obtain rfl : gn1 = pn1 := by have := HOW3.out.len; have := HOG.out.len; omega
      obtain rfl : gn2 = pn2 := by have := HOW3.out.len; have := HOG.out.len; omega
      have HLW : Hid (gn1 ≤ 1048576 ∧ gn2 ≤ 1048576) := Lib.hid (by have l1 := HRL.out; have l2 := HOW3.out.len; have l3 := HOG.out.len; omega)
      have HDG : Hid (Disj (.slice p1 gn1 p3) (.slice k1 n1 k3) ∧ Disj (.slice p1 gn1 p3) (.slice k2 n2 k4) ∧ Disj (.slice p2 gn2 p4) (.slice k1 n1 k3) ∧ Disj (.slice p2 gn2 p4) (.slice k2 n2 k4)) := Lib.hid ⟨(own_disj HOX.out.t HOG.out.t).symm, (own_disj HOX.out.i HOG.out.t).symm, (own_disj HOX.out.t HOG.out.i).symm, (own_disj HOX.out.i HOG.out.i).symm⟩
      have HDW : Hid (Disj (.slice g1 gn1 g3) (.slice p1 gn1 p3) ∧ Disj (.slice g1 gn1 g3) (.slice p2 gn2 p4) ∧ Disj (.slice g2 gn2 g4) (.slice p1 gn1 p3) ∧ Disj (.slice g2 gn2 g4) (.slice p2 gn2 p4)) := Lib.hid ⟨own_disj HOW2.out.t HOG.out.t, own_disj HOW2.out.t HOG.out.i, own_disj HOW2.out.i HOG.out.t, own_disj HOW2.out.i HOG.out.i⟩
      have HGB : Hid ((∀ q, (Value.slice p1 gn1 p3).ownBlock = some q → V.heap.size ≤ q) ∧ ∀ q, (Value.slice p2 gn2 p4).ownBlock = some q → V.heap.size ≤ q) := Lib.hid ⟨fun q hq => (HOG.out.t.lt q hq).1, fun q hq => (HOG.out.i.lt q hq).1⟩
      clear hT hXh hOh hQh hnh
      have x0 := (HXG.out).cell 0 _ rfl
      have x1 := (HXG.out).cell 1 _ rfl
      have x2 := (HXG.out).cell 2 _ rfl
      have x3 := (HXG.out).cell 3 _ rfl
      have x4 := (HXG.out).cell 4 _ rfl
      have x5 := (HXG.out).cell 5 _ rfl
      have x6 := (HXG.out).cell 6 _ rfl
      have y0 := (HXW3.out).cell 0 _ rfl
      have y1 := (HXW3.out).cell 1 _ rfl
      have y2 := (HXW3.out).cell 2 _ rfl
      have y3 := (HXW3.out).cell 3 _ rfl
      have y4 := (HXW3.out).cell 4 _ rfl
      have y5 := (HXW3.out).cell 5 _ rfl
      have y6 := (HXW3.out).cell 6 _ rfl
      go_wp2_with fail
      refine (eqBookOut_same _ _ _ _ p1 p2 g1 g2 gn1 gn2 p3 p4 g3 g4 r.1.ts r.1.is r.2 _ HOG.out.read HOW3.out.read HLW.out.1 HLW.out.2).mono ?_
      rintro e s1 ⟨rfl, hb⟩
      have HU3 := Lib.hid (HU2.out.trans (hb.mono HU2.out.size))
      have HX4 := Lib.hid (HX3.out.below hb)
      have HOX4 := Lib.hid (HOX3.out.below hb)
      have HXW4 := Lib.hid (HXW3.out.below hb)
      have HOW4 := Lib.hid (HOW3.out.below hb)
      have HXG4 := Lib.hid (HXG.out.below hb)
      have HOG4 := Lib.hid (HOG.out.below hb)
      clear hb x0 x1 x2 x3 x4 x5 x6 y0 y1 y2 y3 y4 y5 y6
      have x0 := ((HLB _ HU3.out).out).cell 0 _ rfl
      have x1 := ((HLB _ HU3.out).out).cell 1 _ rfl
      have x2 := ((HLB _ HU3.out).out).cell 2 _ rfl
      have x3 := ((HLB _ HU3.out).out).cell 3 _ rfl
      have x4 := ((HLB _ HU3.out).out).cell 4 _ rfl
      have x5 := ((HLB _ HU3.out).out).cell 5 _ rfl
      have y0 := (HX4.out).cell 0 _ rfl
      have y1 := (HX4.out).cell 1 _ rfl
      have y2 := (HX4.out).cell 2 _ rfl
      have y3 := (HX4.out).cell 3 _ rfl
      have y4 := (HX4.out).cell 4 _ rfl
      have y5 := (HX4.out).cell 5 _ rfl
      go_wp2_with fail
      clear x0 x1 x2 x3 x4 x5 y0 y1 y2 y3 y4 y5
      have HS5 : Hid (∀ u, Below s1.heap.size s1 u → (BoxC u v4.heap.size [.int .i64 c0, .int .i64 c1, .int .i64 c2, .int .i64 c3, .slice k1 n1 k3, .slice k2 n2 k4] ∧ BoxC u w.heap.size [.int .i64 c0, .int .i64 c1, .int .i64 c2, .int .i64 c3, .slice a1 n1 a3, .slice a2 n2 a4])) := Lib.hid (fun u hu => ⟨HX4.out.below hu, (HLB u (HU3.out.trans (hu.mono HU3.out.size))).out⟩)
      go_upto_region 13 with fail
      go_cut [42] from 23 (fun v u => v = .bool false ∧ Below s1.heap.size s1 u)
      case first =>
        refine TillZ.region (t := 3) hmx (fun u => BoxC u v4.heap.size [.int .i64 c0, .int .i64 c1, .int .i64 c2, .int .i64 c3, .slice k1 n1 k3, .slice k2 n2 k4] ∧ BoxC u w.heap.size [.int .i64 c0, .int .i64 c1, .int .i64 c2, .int .i64 c3, .slice a1 n1 a3, .slice a2 n2 a4]) ?_
        have HV0 : Hid (Below s1.heap.size s1 s1.drew) := Lib.hid (Below.refl _ _).drew
        have hS0 := HS5.out _ HV0.out
        refine TillZ.take (i := 0) (v := .agg #[.int .i64 c0, .int .i64 c1, .int .i64 c2, .int .i64 c3, .slice k1 n1 k3, .slice k2 n2 k4]) rfl rfl rfl (by kernel_rfl) (by kernel_rfl) (by kernel_rfl) (by kernel_rfl) hS0 (fun u hu => by have z0 := hu.1.cell 0 _ rfl; have z1 := hu.1.cell 1 _ rfl; have z2 := hu.1.cell 2 _ rfl; have z3 := hu.1.cell 3 _ rfl; have z4 := hu.1.cell 4 _ rfl; have z5 := hu.1.cell 5 _ rfl; go_simp) ?_
        simp only [Act.put, List.getElem_toArray, List.getElem_cons_zero, List.getElem_cons_succ, List.setIfInBounds_toArray, List.set_cons_zero, List.set_cons_succ]
        have z0 := hS0.2.cell 0 _ rfl
        have z1 := hS0.2.cell 1 _ rfl
        have z2 := hS0.2.cell 2 _ rfl
        have z3 := hS0.2.cell 3 _ rfl
        have z4 := hS0.2.cell 4 _ rfl
        have z5 := hS0.2.cell 5 _ rfl
        refine TillZ.value (i := 1) (v := .agg #[.int .i64 c0, .int .i64 c1, .int .i64 c2, .int .i64 c3, .slice a1 n1 a3, .slice a2 n2 a4]) (by kernel_rfl) rfl rfl (by kernel_rfl) (by go_simp) hS0 ?_
        clear z0 z1 z2 z3 z4 z5
        simp only [Act.put, List.getElem_toArray, List.getElem_cons_zero, List.getElem_cons_succ, List.setIfInBounds_toArray, List.set_cons_zero, List.set_cons_succ]
        generalize hsd : s1.drew = t0 at *
        clear hsd
        refine TillZ.call (i := 2) (f := 7) (args := #[.agg #[.int .i64 c0, .int .i64 c1, .int .i64 c2, .int .i64 c3, .slice a1 n1 a3, .slice a2 n2 a4]]) (by kernel_rfl) rfl rfl (by kernel_rfl) (by go_simp) ?_
        refine Calls.mono (toBook_any c0 c1 c2 c3 a1 a2 n1 n2 a3 a4 ts is t0 (HRW _ (HU3.out.trans (HV0.out.mono HU3.out.size))).out hn1 hn2) ?_
        rintro e t1 ⟨b1, b3, b2, b4, rfl, ho, hb⟩
        have HV1 := Lib.hid (HV0.out.trans (hb.mono HV0.out.size))
        have HO1 := Lib.hid ho.read
        refine ⟨_, rfl, HS5.out _ HV1.out, ?_⟩
        clear ho hb
        simp only [Act.put, List.getElem_toArray, List.getElem_cons_zero, List.getElem_cons_succ, List.setIfInBounds_toArray, List.set_cons_zero, List.set_cons_succ]
        refine hand_call (f := 11) (args := #[.agg #[.int .i64 c0, .int .i64 c1, .int .i64 c2, .int .i64 c3, .slice k1 n1 k3, .slice k2 n2 k4], .agg #[.int .i64 c0, .int .i64 c1, .int .i64 c2, .int .i64 c3, .slice b1 n1 b3, .slice b2 n2 b4]]) (by kernel_rfl) rfl rfl (by go_simp) ?_
        refine Calls.mono (eqBook_same c0 c1 c2 c3 k1 k2 b1 b2 n1 n2 k3 k4 b3 b4 ts is t1 (HOX4.out.below HV1.out).read HO1.out hn1 hn2) ?_
        rintro e t2 ⟨rfl, hb⟩
        have HV2 := Lib.hid (HV1.out.trans (hb.mono HV1.out.size))
        refine ⟨_, rfl, ?_⟩
        clear hb
        simp only [Act.put, List.getElem_toArray, List.getElem_cons_zero, List.getElem_cons_succ, List.setIfInBounds_toArray, List.set_cons_zero, List.set_cons_succ]
        refine TillZ.any_value (i := 4) (v := .bool false) (by kernel_rfl) rfl rfl (by go_simp) ?_
        simp only [Act.put, List.getElem_toArray, List.getElem_cons_zero, List.getElem_cons_succ, List.setIfInBounds_toArray, List.set_cons_zero, List.set_cons_succ]
        refine TillZ.any_done (by kernel_rfl) ?_ _
        go_wp2_with fail
        go_meet
        case rel => exact ⟨rfl, HV2.out⟩
      case rest =>
        obtain ⟨rfl, hT⟩ := hcut
        have HU5 := Lib.hid (HU3.out.trans (hT.mono HU3.out.size))
        have HX5 := Lib.hid (HX4.out.below hT)
        have HOX5 := Lib.hid (HOX4.out.below hT)
        have HXW5 := Lib.hid (HXW4.out.below hT)
        have HOW5 := Lib.hid (HOW4.out.below hT)
        have HXG5 := Lib.hid (HXG4.out.below hT)
        have HOG5 := Lib.hid (HOG4.out.below hT)
        clear hT HX4 HOX4 HXW4 HOW4 HXG4 HOG4
        have y0 := (HX5.out).cell 0 _ rfl
        have y1 := (HX5.out).cell 1 _ rfl
        have y2 := (HX5.out).cell 2 _ rfl
        have y3 := (HX5.out).cell 3 _ rfl
        have y4 := (HX5.out).cell 4 _ rfl
        have y5 := (HX5.out).cell 5 _ rfl
        go_wp2_with fail
        refine (markBook_any c0 c1 c2 c3 k1 k2 _ n1 n2 k3 k4 ts is 1 _ HOX5.out hn1 hn2 (by omega) (by omega)).mono ?_
        rintro e m1 ⟨rfl, _, m0, hg1, hg2⟩
        have hu5 := HU5.out.size
        have hk6 : ¬ (((1 : Nat) : Int) + 2 * (n1 : Int) + 3 * (n2 : Int)) < 0 := by omega
        have HU6 := Lib.hid (below_marked HU5.out hg1 hg2 hu5 (fun q hq => (HKB.out.1 q hq).2.1) (fun q hq => (HKB.out.2 q hq).2.1))
        have HXW6 := Lib.hid (boxC_marked HXW5.out hg1 hg2 (fun q hq => Nat.ne_of_gt (HKB.out.1 q hq).1) (fun q hq => Nat.ne_of_gt (HKB.out.2 q hq).1))
        have HOW6 := Lib.hid (bkO_marked HOW5.out hg1 hg2 HDT.out.1 HDT.out.2.1 HDT.out.2.2.1 HDT.out.2.2.2)
        have HXG6 := Lib.hid (boxC_marked HXG5.out hg1 hg2 (fun q hq => Nat.ne_of_lt (Nat.lt_of_lt_of_le (HKB.out.1 q hq).2.2 HNG.out)) (fun q hq => Nat.ne_of_lt (Nat.lt_of_lt_of_le (HKB.out.2 q hq).2.2 HNG.out)))
        have HOG6 := Lib.hid (bkO_marked HOG5.out hg1 hg2 HDG.out.1 HDG.out.2.1 HDG.out.2.2.1 HDG.out.2.2.2)
        clear hg1 hg2 HX5 HOX5 HXW5 HOW5 HXG5 HOG5 y0 y1 y2 y3 y4 y5
        have x0 := (HXG6.out).cell 0 _ rfl
        have x1 := (HXG6.out).cell 1 _ rfl
        have x2 := (HXG6.out).cell 2 _ rfl
        have x3 := (HXG6.out).cell 3 _ rfl
        have x4 := (HXG6.out).cell 4 _ rfl
        have x5 := (HXG6.out).cell 5 _ rfl
        have x6 := (HXG6.out).cell 6 _ rfl
        have y0 := (HXW6.out).cell 0 _ rfl
        have y1 := (HXW6.out).cell 1 _ rfl
        have y2 := (HXW6.out).cell 2 _ rfl
        have y3 := (HXW6.out).cell 3 _ rfl
        have y4 := (HXW6.out).cell 4 _ rfl
        have y5 := (HXW6.out).cell 5 _ rfl
        have y6 := (HXW6.out).cell 6 _ rfl
        go_wp2_with fail
        refine (eqBookOut_same _ _ _ _ p1 p2 g1 g2 gn1 gn2 p3 p4 g3 g4 r.1.ts r.1.is r.2 _ HOG6.out.read HOW6.out.read HLW.out.1 HLW.out.2).mono ?_
        rintro e s2 ⟨rfl, hb⟩
        have HU7 := Lib.hid (HU6.out.trans (hb.mono HU6.out.size))
        have HXW7 := Lib.hid (HXW6.out.below hb)
        have HOW7 := Lib.hid (HOW6.out.below hb)
        have HXG7 := Lib.hid (HXG6.out.below hb)
        have HOG7 := Lib.hid (HOG6.out.below hb)
        clear hb HXW6 HOW6 HXG6 HOG6 x0 x1 x2 x3 x4 x5 x6 y0 y1 y2 y3 y4 y5 y6
        have x0 := (HXG7.out).cell 0 _ rfl
        have x1 := (HXG7.out).cell 1 _ rfl
        have x2 := (HXG7.out).cell 2 _ rfl
        have x3 := (HXG7.out).cell 3 _ rfl
        have x4 := (HXG7.out).cell 4 _ rfl
        have x5 := (HXG7.out).cell 5 _ rfl
        have x6 := (HXG7.out).cell 6 _ rfl
        go_wp2_with fail
        refine (markBookOut_any _ _ _ _ p1 p2 _ gn1 gn2 p3 p4 r.1.ts r.1.is r.2 1 _ HOG7.out HLW.out.1 HLW.out.2 (by omega) (by omega)).mono ?_
        rintro e m3 ⟨rfl, hog, m2, hg1, hg2⟩
        have hu7 := HU7.out.size
        have hvv := HUV.out.size
        have HU8 := Lib.hid (below_marked HU7.out hg1 hg2 hu7 (fun q hq => Nat.le_trans hvv (HGB.out.1 q hq)) (fun q hq => Nat.le_trans hvv (HGB.out.2 q hq)))
        have HXW8 := Lib.hid (boxC_marked HXW7.out hg1 hg2 (fun q hq => Nat.ne_of_gt (Nat.lt_of_lt_of_le HNV.out (HGB.out.1 q hq))) (fun q hq => Nat.ne_of_gt (Nat.lt_of_lt_of_le HNV.out (HGB.out.2 q hq))))
        have HOW8 := Lib.hid (bkO_marked HOW7.out hg1 hg2 HDW.out.1 HDW.out.2.1 HDW.out.2.2.1 HDW.out.2.2.2)
        have HXG8 := Lib.hid (boxC_marked HXG7.out hg1 hg2 HQG.out.1 HQG.out.2)
        have HOG8 := Lib.hid hog
        clear hog hg1 hg2 HXW7 HOW7 HXG7 HOG7 x0 x1 x2 x3 x4 x5 x6
        have x0 := (HXG8.out).cell 0 _ rfl
        have x1 := (HXG8.out).cell 1 _ rfl
        have x2 := (HXG8.out).cell 2 _ rfl
        have x3 := (HXG8.out).cell 3 _ rfl
        have x4 := (HXG8.out).cell 4 _ rfl
        have x5 := (HXG8.out).cell 5 _ rfl
        have x6 := (HXG8.out).cell 6 _ rfl
        go_wp2_with fail
        refine (heldBookOut_any _ _ _ _ p1 p2 gn1 gn2 p3 p4 r.2 1 _ HOG8.out.read HLW.out.1 HLW.out.2 (by omega) (by omega)).mono ?_
        rintro e s3 ⟨rfl, hb⟩
        have hk8 : ¬ (((1 : Nat) : Int) + 2 * (gn1 : Int) + 3 * (gn2 : Int)) < 0 := by omega
        have HU9 := Lib.hid (HU8.out.trans (hb.mono HU8.out.size))
        have HXW9 := Lib.hid (HXW8.out.below hb)
        have HOW9 := Lib.hid (HOW8.out.below hb)
        have HXG9 := Lib.hid (HXG8.out.below hb)
        have HOG9 := Lib.hid (HOG8.out.below hb)
        clear hb HXW8 HOW8 HXG8 HOG8 x0 x1 x2 x3 x4 x5 x6
        go_wp2_with fail
        have HS9 : Hid (∀ u, Below s3.heap.size s3 u → (BoxC u w.heap.size [.int .i64 c0, .int .i64 c1, .int .i64 c2, .int .i64 c3, .slice a1 n1 a3, .slice a2 n2 a4] ∧ BoxC u (w.heap.size + 1) [.int .i64 qb0, .int .i64 qb1, .int .i64 qb2, .int .i64 qb3, .int .i64 qb4, .int .i64 qb5, .string qb6, .string qb7, .int .i64 qb8, .string qb9])) := Lib.hid (fun u hu => ⟨(HLB u (HU9.out.trans (hu.mono HU9.out.size))).out, (HLD u (HU9.out.trans (hu.mono HU9.out.size))).out⟩)
        go_upto_region 27 with fail
        go_cut [12] from 23 (fun v u => ∃ nb j1 jn1 j3 j2 jn2 j4, v = .pointer (some ⟨nb, 0, none⟩) ∧ BoxC u nb [.int .i64 r.1.c0, .int .i64 r.1.c1, .int .i64 r.1.c2, .int .i64 r.1.c3, .slice j1 jn1 j3, .slice j2 jn2 j4, .int .i64 r.2] ∧ BkO u s3.heap.size j1 jn1 j3 j2 jn2 j4 r.1.ts r.1.is ∧ ((∀ q, (Value.slice j1 jn1 j3).ownBlock = some q → q ≠ nb) ∧ ∀ q, (Value.slice j2 jn2 j4).ownBlock = some q → q ≠ nb) ∧ s3.heap.size ≤ nb ∧ Below s3.heap.size s3 u)
        case first =>
          refine TillZ.region (t := 6) hmx (fun u => BoxC u w.heap.size [.int .i64 c0, .int .i64 c1, .int .i64 c2, .int .i64 c3, .slice a1 n1 a3, .slice a2 n2 a4] ∧ BoxC u (w.heap.size + 1) [.int .i64 qb0, .int .i64 qb1, .int .i64 qb2, .int .i64 qb3, .int .i64 qb4, .int .i64 qb5, .string qb6, .string qb7, .int .i64 qb8, .string qb9]) ?_
          have HV0 : Hid (Below s3.heap.size s3 s3.drew) := Lib.hid (Below.refl _ _).drew
          have hS0 := HS9.out _ HV0.out
          refine TillZ.take (i := 0) (v := .agg #[.int .i64 c0, .int .i64 c1, .int .i64 c2, .int .i64 c3, .slice a1 n1 a3, .slice a2 n2 a4]) rfl rfl rfl (by kernel_rfl) (by kernel_rfl) (by kernel_rfl) (by kernel_rfl) hS0 (fun u hu => by have z0 := hu.1.cell 0 _ rfl; have z1 := hu.1.cell 1 _ rfl; have z2 := hu.1.cell 2 _ rfl; have z3 := hu.1.cell 3 _ rfl; have z4 := hu.1.cell 4 _ rfl; have z5 := hu.1.cell 5 _ rfl; go_simp) ?_
          simp only [Act.put, List.getElem_toArray, List.getElem_cons_zero, List.getElem_cons_succ, List.setIfInBounds_toArray, List.set_cons_zero, List.set_cons_succ]
          refine TillZ.take (i := 2) (v := .agg #[.int .i64 qb0, .int .i64 qb1, .int .i64 qb2, .int .i64 qb3, .int .i64 qb4, .int .i64 qb5, .string qb6, .string qb7, .int .i64 qb8, .string qb9]) rfl rfl rfl (by kernel_rfl) (by kernel_rfl) (by kernel_rfl) (by kernel_rfl) hS0 (fun u hu => by have z0 := hu.2.cell 0 _ rfl; have z1 := hu.2.cell 1 _ rfl; have z2 := hu.2.cell 2 _ rfl; have z3 := hu.2.cell 3 _ rfl; have z4 := hu.2.cell 4 _ rfl; have z5 := hu.2.cell 5 _ rfl; have z6 := hu.2.cell 6 _ rfl; have z7 := hu.2.cell 7 _ rfl; have z8 := hu.2.cell 8 _ rfl; have z9 := hu.2.cell 9 _ rfl; go_simp) ?_
          simp only [Act.put, List.getElem_toArray, List.getElem_cons_zero, List.getElem_cons_succ, List.setIfInBounds_toArray, List.set_cons_zero, List.set_cons_succ]
          generalize hvd : s3.drew = t0 at *
          clear hvd
          refine TillZ.two (i := 1) (j := 5) (by kernel_rfl) ?_ ?_
          · skip
            refine TillZ.callz (i := 1) (f := 7) (args := #[.agg #[.int .i64 c0, .int .i64 c1, .int .i64 c2, .int .i64 c3, .slice a1 n1 a3, .slice a2 n2 a4]]) rfl rfl rfl (by go_simp) ?_
            refine Calls.mono (toBook_any c0 c1 c2 c3 a1 a2 n1 n2 a3 a4 ts is t0 ((HRW _ (HU9.out.trans (HV0.out.mono HU9.out.size))).out) hn1 hn2) ?_
            rintro e uj1 ⟨b1, b3, b2, b4, rfl, ho, hb⟩
            have HUuj1 := Lib.hid (HV0.out.trans (hb.mono HV0.out.size))
            have HOuj1 := Lib.hid (ho.mono HV0.out.size)
            refine ⟨_, rfl, HS9.out _ HUuj1.out, ?_⟩
            clear hb ho
            simp only [Act.put, List.getElem_toArray, List.getElem_cons_zero, List.getElem_cons_succ, List.setIfInBounds_toArray, List.set_cons_zero, List.set_cons_succ]
            refine TillZ.two (i := 3) (j := 5) (by kernel_rfl) ?_ ?_
            · skip
              refine TillZ.callz (i := 3) (f := 8) (args := #[.agg #[.int .i64 qb0, .int .i64 qb1, .int .i64 qb2, .int .i64 qb3, .int .i64 qb4, .int .i64 qb5, .string qb6, .string qb7, .int .i64 qb8, .string qb9]]) rfl rfl rfl (by go_simp) ?_
              refine Calls.mono (toDeed_any qb0 qb1 qb2 qb3 qb4 qb5 qb6 qb7 qb8 qb9 uj1) ?_
              rintro e uj2 ⟨rfl, hb⟩
              have HUuj2 := Lib.hid (HUuj1.out.trans (hb.mono HUuj1.out.size))
              have HOuj2 := Lib.hid (HOuj1.out.below hb)
              refine ⟨_, rfl, HS9.out _ HUuj2.out, ?_⟩
              clear hb
              simp only [Act.put, List.getElem_toArray, List.getElem_cons_zero, List.getElem_cons_succ, List.setIfInBounds_toArray, List.set_cons_zero, List.set_cons_succ]
              refine TillZ.two (i := 4) (j := 5) (by kernel_rfl) ?_ ?_
              · skip
                refine TillZ.callz (i := 4) (f := 9) (args := #[.agg #[.int .i64 c0, .int .i64 c1, .int .i64 c2, .int .i64 c3, .slice b1 n1 b3, .slice b2 n2 b4], .agg #[.int .i64 qb0, .int .i64 qb1, .int .i64 qb2, .int .i64 qb3, .int .i64 qb4, .int .i64 qb5, .string qb6, .string qb7, .int .i64 qb8, .string qb9]]) rfl rfl rfl (by go_simp) ?_
                refine Calls.mono (implBookDo_any ⟨c0, c1, c2, c3, ts, is⟩ b1 b2 n1 n2 b3 b4 qb0 qb1 qb2 qb3 qb4 qb5 qb6 qb7 qb8 qb9 uj2 HOuj2.out.read hn1 hn2 HT.out HI.out H6.out H7.out H9.out) ?_
                rintro e uj3 hnb
                rw [HRD.out] at hnb
                obtain ⟨j1, jn1, j3, j2, jn2, j4, rfl, ho, hb⟩ := hnb
                have HUuj3 := Lib.hid (HUuj2.out.trans (hb.mono HUuj2.out.size))
                have HOuj3 := Lib.hid (HOuj2.out.below hb)
                have HGuj3 := Lib.hid (ho.mono HUuj2.out.size)
                refine ⟨_, rfl, HS9.out _ HUuj3.out, ?_⟩
                clear hb ho
                simp only [Act.put, List.getElem_toArray, List.getElem_cons_zero, List.getElem_cons_succ, List.setIfInBounds_toArray, List.set_cons_zero, List.set_cons_succ]
                refine TillZ.one (i := 5) (by kernel_rfl) ?_
                refine TillZ.opz (i := 5) (v := .pointer (some ⟨uj3.heap.size, 0, none⟩)) (w' := uj3.alloc (.cells #[.int .i64 0, .int .i64 0, .int .i64 0, .int .i64 0, .slice none 0 0, .slice none 0 0, .int .i64 0] 42)) rfl rfl rfl (by go_simp) (HS9.out _ (HUuj3.out.alloc HUuj3.out.size _)) ?_
                simp only [Act.put, List.getElem_toArray, List.getElem_cons_zero, List.getElem_cons_succ, List.setIfInBounds_toArray, List.set_cons_zero, List.set_cons_succ]
                have HUuj4 := Lib.hid (HUuj3.out.alloc HUuj3.out.size (.cells #[.int .i64 0, .int .i64 0, .int .i64 0, .int .i64 0, .slice none 0 0, .slice none 0 0, .int .i64 0] 42))
                have HXuj4 := Lib.hid (BoxC.made uj3 #[.int .i64 0, .int .i64 0, .int .i64 0, .int .i64 0, .slice none 0 0, .slice none 0 0, .int .i64 0] 42)
                have HNBuj4 := Lib.hid HUuj3.out.size
                have HOuj4 := Lib.hid (HOuj3.out.below ((Below.refl uj3.heap.size uj3).alloc (Nat.le_refl _) (.cells #[.int .i64 0, .int .i64 0, .int .i64 0, .int .i64 0, .slice none 0 0, .slice none 0 0, .int .i64 0] 42)))
                have HGuj4 := Lib.hid (HGuj3.out.below ((Below.refl uj3.heap.size uj3).alloc (Nat.le_refl _) (.cells #[.int .i64 0, .int .i64 0, .int .i64 0, .int .i64 0, .slice none 0 0, .slice none 0 0, .int .i64 0] 42)))
                have HQuj4 : Hid ((∀ q, (Value.slice j1 jn1 j3).ownBlock = some q → q ≠ uj3.heap.size) ∧ ∀ q, (Value.slice j2 jn2 j4).ownBlock = some q → q ≠ uj3.heap.size) := Lib.hid ⟨fun q hq => by have := (HGuj3.out.t.lt q hq).2; omega, fun q hq => by have := (HGuj3.out.i.lt q hq).2; omega⟩
                generalize hwuj4 : uj3.alloc (.cells #[.int .i64 0, .int .i64 0, .int .i64 0, .int .i64 0, .slice none 0 0, .slice none 0 0, .int .i64 0] 42) = uj4 at *
                clear hwuj4
                have z0 := HXuj4.out.cell 0 _ rfl
                have f0 := HXuj4.out.free 0
                have z1 := HXuj4.out.cell 1 _ rfl
                have f1 := HXuj4.out.free 1
                have z2 := HXuj4.out.cell 2 _ rfl
                have f2 := HXuj4.out.free 2
                have z3 := HXuj4.out.cell 3 _ rfl
                have f3 := HXuj4.out.free 3
                have z4 := HXuj4.out.cell 4 _ rfl
                have f4 := HXuj4.out.free 4
                have z5 := HXuj4.out.cell 5 _ rfl
                have f5 := HXuj4.out.free 5
                have z6 := HXuj4.out.cell 6 _ rfl
                have f6 := HXuj4.out.free 6
                refine TillZ.hand_skip (w' := ((((((uj4.setCell ⟨uj3.heap.size, 0, none⟩ (.int .i64 r.1.c0)).setCell ⟨uj3.heap.size, 1, none⟩ (.int .i64 r.1.c1)).setCell ⟨uj3.heap.size, 2, none⟩ (.int .i64 r.1.c2)).setCell ⟨uj3.heap.size, 3, none⟩ (.int .i64 r.1.c3)).setCell ⟨uj3.heap.size, 4, none⟩ (.slice j1 jn1 j3)).setCell ⟨uj3.heap.size, 5, none⟩ (.slice j2 jn2 j4)).setCell ⟨uj3.heap.size, 6, none⟩ (.int .i64 r.2)) (by kernel_rfl) rfl rfl (by go_simp) ?_
                simp only [Act.put, List.getElem_toArray, List.getElem_cons_zero, List.getElem_cons_succ, List.setIfInBounds_toArray, List.set_cons_zero, List.set_cons_succ]
                refine TillZ.any_done (by kernel_rfl) ?_ _
                go_wp2_with fail
                go_meet
                case rel => exact ⟨uj3.heap.size, j1, jn1, j3, j2, jn2, j4, rfl, (((((((HXuj4.out.set (j := 0) (by simp) (.int .i64 r.1.c0)).set (j := 1) (by simp) (.int .i64 r.1.c1)).set (j := 2) (by simp) (.int .i64 r.1.c2)).set (j := 3) (by simp) (.int .i64 r.1.c3)).set (j := 4) (by simp) (.slice j1 jn1 j3)).set (j := 5) (by simp) (.slice j2 jn2 j4)).set (j := 6) (by simp) (.int .i64 r.2)), ⟨(own_other (own_other (own_other (own_other (own_other (own_other (own_other HGuj4.out.t (b := uj3.heap.size) HQuj4.out.1 ⟨uj3.heap.size, 0, none⟩ (.int .i64 r.1.c0) rfl) (b := uj3.heap.size) HQuj4.out.1 ⟨uj3.heap.size, 1, none⟩ (.int .i64 r.1.c1) rfl) (b := uj3.heap.size) HQuj4.out.1 ⟨uj3.heap.size, 2, none⟩ (.int .i64 r.1.c2) rfl) (b := uj3.heap.size) HQuj4.out.1 ⟨uj3.heap.size, 3, none⟩ (.int .i64 r.1.c3) rfl) (b := uj3.heap.size) HQuj4.out.1 ⟨uj3.heap.size, 4, none⟩ (.slice j1 jn1 j3) rfl) (b := uj3.heap.size) HQuj4.out.1 ⟨uj3.heap.size, 5, none⟩ (.slice j2 jn2 j4) rfl) (b := uj3.heap.size) HQuj4.out.1 ⟨uj3.heap.size, 6, none⟩ (.int .i64 r.2) rfl), (own_other (own_other (own_other (own_other (own_other (own_other (own_other HGuj4.out.i (b := uj3.heap.size) HQuj4.out.2 ⟨uj3.heap.size, 0, none⟩ (.int .i64 r.1.c0) rfl) (b := uj3.heap.size) HQuj4.out.2 ⟨uj3.heap.size, 1, none⟩ (.int .i64 r.1.c1) rfl) (b := uj3.heap.size) HQuj4.out.2 ⟨uj3.heap.size, 2, none⟩ (.int .i64 r.1.c2) rfl) (b := uj3.heap.size) HQuj4.out.2 ⟨uj3.heap.size, 3, none⟩ (.int .i64 r.1.c3) rfl) (b := uj3.heap.size) HQuj4.out.2 ⟨uj3.heap.size, 4, none⟩ (.slice j1 jn1 j3) rfl) (b := uj3.heap.size) HQuj4.out.2 ⟨uj3.heap.size, 5, none⟩ (.slice j2 jn2 j4) rfl) (b := uj3.heap.size) HQuj4.out.2 ⟨uj3.heap.size, 6, none⟩ (.int .i64 r.2) rfl)⟩, HQuj4.out, HNBuj4.out, (((((((HUuj4.out.setCell (p := ⟨uj3.heap.size, 0, none⟩) HNBuj4.out (.int .i64 r.1.c0)).setCell (p := ⟨uj3.heap.size, 1, none⟩) HNBuj4.out (.int .i64 r.1.c1)).setCell (p := ⟨uj3.heap.size, 2, none⟩) HNBuj4.out (.int .i64 r.1.c2)).setCell (p := ⟨uj3.heap.size, 3, none⟩) HNBuj4.out (.int .i64 r.1.c3)).setCell (p := ⟨uj3.heap.size, 4, none⟩) HNBuj4.out (.slice j1 jn1 j3)).setCell (p := ⟨uj3.heap.size, 5, none⟩) HNBuj4.out (.slice j2 jn2 j4)).setCell (p := ⟨uj3.heap.size, 6, none⟩) HNBuj4.out (.int .i64 r.2))⟩
              · skip
                refine TillZ.opz (i := 5) (v := .pointer (some ⟨uj2.heap.size, 0, none⟩)) (w' := uj2.alloc (.cells #[.int .i64 0, .int .i64 0, .int .i64 0, .int .i64 0, .slice none 0 0, .slice none 0 0, .int .i64 0] 42)) rfl rfl rfl (by go_simp) (HS9.out _ (HUuj2.out.alloc HUuj2.out.size _)) ?_
                simp only [Act.put, List.getElem_toArray, List.getElem_cons_zero, List.getElem_cons_succ, List.setIfInBounds_toArray, List.set_cons_zero, List.set_cons_succ]
                have HUuj5 := Lib.hid (HUuj2.out.alloc HUuj2.out.size (.cells #[.int .i64 0, .int .i64 0, .int .i64 0, .int .i64 0, .slice none 0 0, .slice none 0 0, .int .i64 0] 42))
                have HXuj5 := Lib.hid (BoxC.made uj2 #[.int .i64 0, .int .i64 0, .int .i64 0, .int .i64 0, .slice none 0 0, .slice none 0 0, .int .i64 0] 42)
                have HNBuj5 := Lib.hid HUuj2.out.size
                have HOuj5 := Lib.hid (HOuj2.out.below ((Below.refl uj2.heap.size uj2).alloc (Nat.le_refl _) (.cells #[.int .i64 0, .int .i64 0, .int .i64 0, .int .i64 0, .slice none 0 0, .slice none 0 0, .int .i64 0] 42)))
                generalize hwuj5 : uj2.alloc (.cells #[.int .i64 0, .int .i64 0, .int .i64 0, .int .i64 0, .slice none 0 0, .slice none 0 0, .int .i64 0] 42) = uj5 at *
                clear hwuj5
                refine TillZ.one (i := 4) (by kernel_rfl) ?_
                refine TillZ.callz (i := 4) (f := 9) (args := #[.agg #[.int .i64 c0, .int .i64 c1, .int .i64 c2, .int .i64 c3, .slice b1 n1 b3, .slice b2 n2 b4], .agg #[.int .i64 qb0, .int .i64 qb1, .int .i64 qb2, .int .i64 qb3, .int .i64 qb4, .int .i64 qb5, .string qb6, .string qb7, .int .i64 qb8, .string qb9]]) rfl rfl rfl (by go_simp) ?_
                refine Calls.mono (implBookDo_any ⟨c0, c1, c2, c3, ts, is⟩ b1 b2 n1 n2 b3 b4 qb0 qb1 qb2 qb3 qb4 qb5 qb6 qb7 qb8 qb9 uj5 HOuj5.out.read hn1 hn2 HT.out HI.out H6.out H7.out H9.out) ?_
                rintro e uj6 hnb
                rw [HRD.out] at hnb
                obtain ⟨j1, jn1, j3, j2, jn2, j4, rfl, ho, hb⟩ := hnb
                have HUuj6 := Lib.hid (HUuj5.out.trans (hb.mono HUuj5.out.size))
                have HXuj6 := Lib.hid (HXuj5.out.below hb)
                have HOuj6 := Lib.hid (HOuj5.out.below hb)
                have HQuj6 : Hid ((∀ q, (Value.slice j1 jn1 j3).ownBlock = some q → q ≠ uj2.heap.size) ∧ ∀ q, (Value.slice j2 jn2 j4).ownBlock = some q → q ≠ uj2.heap.size) := Lib.hid ⟨fun q hq => by have := (ho.t.lt q hq).1; have := HXuj5.out.lt; omega, fun q hq => by have := (ho.i.lt q hq).1; have := HXuj5.out.lt; omega⟩
                have HGuj6 := Lib.hid (ho.mono HUuj5.out.size)
                refine ⟨_, rfl, HS9.out _ HUuj6.out, ?_⟩
                clear hb ho
                simp only [Act.put, List.getElem_toArray, List.getElem_cons_zero, List.getElem_cons_succ, List.setIfInBounds_toArray, List.set_cons_zero, List.set_cons_succ]
                have z0 := HXuj6.out.cell 0 _ rfl
                have f0 := HXuj6.out.free 0
                have z1 := HXuj6.out.cell 1 _ rfl
                have f1 := HXuj6.out.free 1
                have z2 := HXuj6.out.cell 2 _ rfl
                have f2 := HXuj6.out.free 2
                have z3 := HXuj6.out.cell 3 _ rfl
                have f3 := HXuj6.out.free 3
                have z4 := HXuj6.out.cell 4 _ rfl
                have f4 := HXuj6.out.free 4
                have z5 := HXuj6.out.cell 5 _ rfl
                have f5 := HXuj6.out.free 5
                have z6 := HXuj6.out.cell 6 _ rfl
                have f6 := HXuj6.out.free 6
                refine TillZ.hand_skip (w' := ((((((uj6.setCell ⟨uj2.heap.size, 0, none⟩ (.int .i64 r.1.c0)).setCell ⟨uj2.heap.size, 1, none⟩ (.int .i64 r.1.c1)).setCell ⟨uj2.heap.size, 2, none⟩ (.int .i64 r.1.c2)).setCell ⟨uj2.heap.size, 3, none⟩ (.int .i64 r.1.c3)).setCell ⟨uj2.heap.size, 4, none⟩ (.slice j1 jn1 j3)).setCell ⟨uj2.heap.size, 5, none⟩ (.slice j2 jn2 j4)).setCell ⟨uj2.heap.size, 6, none⟩ (.int .i64 r.2)) (by kernel_rfl) rfl rfl (by go_simp) ?_
                simp only [Act.put, List.getElem_toArray, List.getElem_cons_zero, List.getElem_cons_succ, List.setIfInBounds_toArray, List.set_cons_zero, List.set_cons_succ]
                refine TillZ.any_done (by kernel_rfl) ?_ _
                go_wp2_with fail
                go_meet
                case rel => exact ⟨uj2.heap.size, j1, jn1, j3, j2, jn2, j4, rfl, (((((((HXuj6.out.set (j := 0) (by simp) (.int .i64 r.1.c0)).set (j := 1) (by simp) (.int .i64 r.1.c1)).set (j := 2) (by simp) (.int .i64 r.1.c2)).set (j := 3) (by simp) (.int .i64 r.1.c3)).set (j := 4) (by simp) (.slice j1 jn1 j3)).set (j := 5) (by simp) (.slice j2 jn2 j4)).set (j := 6) (by simp) (.int .i64 r.2)), ⟨(own_other (own_other (own_other (own_other (own_other (own_other (own_other HGuj6.out.t (b := uj2.heap.size) HQuj6.out.1 ⟨uj2.heap.size, 0, none⟩ (.int .i64 r.1.c0) rfl) (b := uj2.heap.size) HQuj6.out.1 ⟨uj2.heap.size, 1, none⟩ (.int .i64 r.1.c1) rfl) (b := uj2.heap.size) HQuj6.out.1 ⟨uj2.heap.size, 2, none⟩ (.int .i64 r.1.c2) rfl) (b := uj2.heap.size) HQuj6.out.1 ⟨uj2.heap.size, 3, none⟩ (.int .i64 r.1.c3) rfl) (b := uj2.heap.size) HQuj6.out.1 ⟨uj2.heap.size, 4, none⟩ (.slice j1 jn1 j3) rfl) (b := uj2.heap.size) HQuj6.out.1 ⟨uj2.heap.size, 5, none⟩ (.slice j2 jn2 j4) rfl) (b := uj2.heap.size) HQuj6.out.1 ⟨uj2.heap.size, 6, none⟩ (.int .i64 r.2) rfl), (own_other (own_other (own_other (own_other (own_other (own_other (own_other HGuj6.out.i (b := uj2.heap.size) HQuj6.out.2 ⟨uj2.heap.size, 0, none⟩ (.int .i64 r.1.c0) rfl) (b := uj2.heap.size) HQuj6.out.2 ⟨uj2.heap.size, 1, none⟩ (.int .i64 r.1.c1) rfl) (b := uj2.heap.size) HQuj6.out.2 ⟨uj2.heap.size, 2, none⟩ (.int .i64 r.1.c2) rfl) (b := uj2.heap.size) HQuj6.out.2 ⟨uj2.heap.size, 3, none⟩ (.int .i64 r.1.c3) rfl) (b := uj2.heap.size) HQuj6.out.2 ⟨uj2.heap.size, 4, none⟩ (.slice j1 jn1 j3) rfl) (b := uj2.heap.size) HQuj6.out.2 ⟨uj2.heap.size, 5, none⟩ (.slice j2 jn2 j4) rfl) (b := uj2.heap.size) HQuj6.out.2 ⟨uj2.heap.size, 6, none⟩ (.int .i64 r.2) rfl)⟩, HQuj6.out, HNBuj5.out, (((((((HUuj6.out.setCell (p := ⟨uj2.heap.size, 0, none⟩) HNBuj5.out (.int .i64 r.1.c0)).setCell (p := ⟨uj2.heap.size, 1, none⟩) HNBuj5.out (.int .i64 r.1.c1)).setCell (p := ⟨uj2.heap.size, 2, none⟩) HNBuj5.out (.int .i64 r.1.c2)).setCell (p := ⟨uj2.heap.size, 3, none⟩) HNBuj5.out (.int .i64 r.1.c3)).setCell (p := ⟨uj2.heap.size, 4, none⟩) HNBuj5.out (.slice j1 jn1 j3)).setCell (p := ⟨uj2.heap.size, 5, none⟩) HNBuj5.out (.slice j2 jn2 j4)).setCell (p := ⟨uj2.heap.size, 6, none⟩) HNBuj5.out (.int .i64 r.2))⟩
            · skip
              refine TillZ.opz (i := 5) (v := .pointer (some ⟨uj1.heap.size, 0, none⟩)) (w' := uj1.alloc (.cells #[.int .i64 0, .int .i64 0, .int .i64 0, .int .i64 0, .slice none 0 0, .slice none 0 0, .int .i64 0] 42)) rfl rfl rfl (by go_simp) (HS9.out _ (HUuj1.out.alloc HUuj1.out.size _)) ?_
              simp only [Act.put, List.getElem_toArray, List.getElem_cons_zero, List.getElem_cons_succ, List.setIfInBounds_toArray, List.set_cons_zero, List.set_cons_succ]
              have HUuj7 := Lib.hid (HUuj1.out.alloc HUuj1.out.size (.cells #[.int .i64 0, .int .i64 0, .int .i64 0, .int .i64 0, .slice none 0 0, .slice none 0 0, .int .i64 0] 42))
              have HXuj7 := Lib.hid (BoxC.made uj1 #[.int .i64 0, .int .i64 0, .int .i64 0, .int .i64 0, .slice none 0 0, .slice none 0 0, .int .i64 0] 42)
              have HNBuj7 := Lib.hid HUuj1.out.size
              have HOuj7 := Lib.hid (HOuj1.out.below ((Below.refl uj1.heap.size uj1).alloc (Nat.le_refl _) (.cells #[.int .i64 0, .int .i64 0, .int .i64 0, .int .i64 0, .slice none 0 0, .slice none 0 0, .int .i64 0] 42)))
              generalize hwuj7 : uj1.alloc (.cells #[.int .i64 0, .int .i64 0, .int .i64 0, .int .i64 0, .slice none 0 0, .slice none 0 0, .int .i64 0] 42) = uj7 at *
              clear hwuj7
              refine TillZ.one (i := 3) (by kernel_rfl) ?_
              refine TillZ.callz (i := 3) (f := 8) (args := #[.agg #[.int .i64 qb0, .int .i64 qb1, .int .i64 qb2, .int .i64 qb3, .int .i64 qb4, .int .i64 qb5, .string qb6, .string qb7, .int .i64 qb8, .string qb9]]) rfl rfl rfl (by go_simp) ?_
              refine Calls.mono (toDeed_any qb0 qb1 qb2 qb3 qb4 qb5 qb6 qb7 qb8 qb9 uj7) ?_
              rintro e uj8 ⟨rfl, hb⟩
              have HUuj8 := Lib.hid (HUuj7.out.trans (hb.mono HUuj7.out.size))
              have HXuj8 := Lib.hid (HXuj7.out.below hb)
              have HOuj8 := Lib.hid (HOuj7.out.below hb)
              refine ⟨_, rfl, HS9.out _ HUuj8.out, ?_⟩
              clear hb
              simp only [Act.put, List.getElem_toArray, List.getElem_cons_zero, List.getElem_cons_succ, List.setIfInBounds_toArray, List.set_cons_zero, List.set_cons_succ]
              refine TillZ.one (i := 4) (by kernel_rfl) ?_
              refine TillZ.callz (i := 4) (f := 9) (args := #[.agg #[.int .i64 c0, .int .i64 c1, .int .i64 c2, .int .i64 c3, .slice b1 n1 b3, .slice b2 n2 b4], .agg #[.int .i64 qb0, .int .i64 qb1, .int .i64 qb2, .int .i64 qb3, .int .i64 qb4, .int .i64 qb5, .string qb6, .string qb7, .int .i64 qb8, .string qb9]]) rfl rfl rfl (by go_simp) ?_
              refine Calls.mono (implBookDo_any ⟨c0, c1, c2, c3, ts, is⟩ b1 b2 n1 n2 b3 b4 qb0 qb1 qb2 qb3 qb4 qb5 qb6 qb7 qb8 qb9 uj8 HOuj8.out.read hn1 hn2 HT.out HI.out H6.out H7.out H9.out) ?_
              rintro e uj9 hnb
              rw [HRD.out] at hnb
              obtain ⟨j1, jn1, j3, j2, jn2, j4, rfl, ho, hb⟩ := hnb
              have HUuj9 := Lib.hid (HUuj8.out.trans (hb.mono HUuj8.out.size))
              have HXuj9 := Lib.hid (HXuj8.out.below hb)
              have HOuj9 := Lib.hid (HOuj8.out.below hb)
              have HQuj9 : Hid ((∀ q, (Value.slice j1 jn1 j3).ownBlock = some q → q ≠ uj1.heap.size) ∧ ∀ q, (Value.slice j2 jn2 j4).ownBlock = some q → q ≠ uj1.heap.size) := Lib.hid ⟨fun q hq => by have := (ho.t.lt q hq).1; have := HXuj8.out.lt; omega, fun q hq => by have := (ho.i.lt q hq).1; have := HXuj8.out.lt; omega⟩
              have HGuj9 := Lib.hid (ho.mono HUuj8.out.size)
              refine ⟨_, rfl, HS9.out _ HUuj9.out, ?_⟩
              clear hb ho
              simp only [Act.put, List.getElem_toArray, List.getElem_cons_zero, List.getElem_cons_succ, List.setIfInBounds_toArray, List.set_cons_zero, List.set_cons_succ]
              have z0 := HXuj9.out.cell 0 _ rfl
              have f0 := HXuj9.out.free 0
              have z1 := HXuj9.out.cell 1 _ rfl
              have f1 := HXuj9.out.free 1
              have z2 := HXuj9.out.cell 2 _ rfl
              have f2 := HXuj9.out.free 2
              have z3 := HXuj9.out.cell 3 _ rfl
              have f3 := HXuj9.out.free 3
              have z4 := HXuj9.out.cell 4 _ rfl
              have f4 := HXuj9.out.free 4
              have z5 := HXuj9.out.cell 5 _ rfl
              have f5 := HXuj9.out.free 5
              have z6 := HXuj9.out.cell 6 _ rfl
              have f6 := HXuj9.out.free 6
              refine TillZ.hand_skip (w' := ((((((uj9.setCell ⟨uj1.heap.size, 0, none⟩ (.int .i64 r.1.c0)).setCell ⟨uj1.heap.size, 1, none⟩ (.int .i64 r.1.c1)).setCell ⟨uj1.heap.size, 2, none⟩ (.int .i64 r.1.c2)).setCell ⟨uj1.heap.size, 3, none⟩ (.int .i64 r.1.c3)).setCell ⟨uj1.heap.size, 4, none⟩ (.slice j1 jn1 j3)).setCell ⟨uj1.heap.size, 5, none⟩ (.slice j2 jn2 j4)).setCell ⟨uj1.heap.size, 6, none⟩ (.int .i64 r.2)) (by kernel_rfl) rfl rfl (by go_simp) ?_
              simp only [Act.put, List.getElem_toArray, List.getElem_cons_zero, List.getElem_cons_succ, List.setIfInBounds_toArray, List.set_cons_zero, List.set_cons_succ]
              refine TillZ.any_done (by kernel_rfl) ?_ _
              go_wp2_with fail
              go_meet
              case rel => exact ⟨uj1.heap.size, j1, jn1, j3, j2, jn2, j4, rfl, (((((((HXuj9.out.set (j := 0) (by simp) (.int .i64 r.1.c0)).set (j := 1) (by simp) (.int .i64 r.1.c1)).set (j := 2) (by simp) (.int .i64 r.1.c2)).set (j := 3) (by simp) (.int .i64 r.1.c3)).set (j := 4) (by simp) (.slice j1 jn1 j3)).set (j := 5) (by simp) (.slice j2 jn2 j4)).set (j := 6) (by simp) (.int .i64 r.2)), ⟨(own_other (own_other (own_other (own_other (own_other (own_other (own_other HGuj9.out.t (b := uj1.heap.size) HQuj9.out.1 ⟨uj1.heap.size, 0, none⟩ (.int .i64 r.1.c0) rfl) (b := uj1.heap.size) HQuj9.out.1 ⟨uj1.heap.size, 1, none⟩ (.int .i64 r.1.c1) rfl) (b := uj1.heap.size) HQuj9.out.1 ⟨uj1.heap.size, 2, none⟩ (.int .i64 r.1.c2) rfl) (b := uj1.heap.size) HQuj9.out.1 ⟨uj1.heap.size, 3, none⟩ (.int .i64 r.1.c3) rfl) (b := uj1.heap.size) HQuj9.out.1 ⟨uj1.heap.size, 4, none⟩ (.slice j1 jn1 j3) rfl) (b := uj1.heap.size) HQuj9.out.1 ⟨uj1.heap.size, 5, none⟩ (.slice j2 jn2 j4) rfl) (b := uj1.heap.size) HQuj9.out.1 ⟨uj1.heap.size, 6, none⟩ (.int .i64 r.2) rfl), (own_other (own_other (own_other (own_other (own_other (own_other (own_other HGuj9.out.i (b := uj1.heap.size) HQuj9.out.2 ⟨uj1.heap.size, 0, none⟩ (.int .i64 r.1.c0) rfl) (b := uj1.heap.size) HQuj9.out.2 ⟨uj1.heap.size, 1, none⟩ (.int .i64 r.1.c1) rfl) (b := uj1.heap.size) HQuj9.out.2 ⟨uj1.heap.size, 2, none⟩ (.int .i64 r.1.c2) rfl) (b := uj1.heap.size) HQuj9.out.2 ⟨uj1.heap.size, 3, none⟩ (.int .i64 r.1.c3) rfl) (b := uj1.heap.size) HQuj9.out.2 ⟨uj1.heap.size, 4, none⟩ (.slice j1 jn1 j3) rfl) (b := uj1.heap.size) HQuj9.out.2 ⟨uj1.heap.size, 5, none⟩ (.slice j2 jn2 j4) rfl) (b := uj1.heap.size) HQuj9.out.2 ⟨uj1.heap.size, 6, none⟩ (.int .i64 r.2) rfl)⟩, HQuj9.out, HNBuj7.out, (((((((HUuj9.out.setCell (p := ⟨uj1.heap.size, 0, none⟩) HNBuj7.out (.int .i64 r.1.c0)).setCell (p := ⟨uj1.heap.size, 1, none⟩) HNBuj7.out (.int .i64 r.1.c1)).setCell (p := ⟨uj1.heap.size, 2, none⟩) HNBuj7.out (.int .i64 r.1.c2)).setCell (p := ⟨uj1.heap.size, 3, none⟩) HNBuj7.out (.int .i64 r.1.c3)).setCell (p := ⟨uj1.heap.size, 4, none⟩) HNBuj7.out (.slice j1 jn1 j3)).setCell (p := ⟨uj1.heap.size, 5, none⟩) HNBuj7.out (.slice j2 jn2 j4)).setCell (p := ⟨uj1.heap.size, 6, none⟩) HNBuj7.out (.int .i64 r.2))⟩
          · skip
            refine TillZ.opz (i := 5) (v := .pointer (some ⟨t0.heap.size, 0, none⟩)) (w' := t0.alloc (.cells #[.int .i64 0, .int .i64 0, .int .i64 0, .int .i64 0, .slice none 0 0, .slice none 0 0, .int .i64 0] 42)) rfl rfl rfl (by go_simp) (HS9.out _ (HV0.out.alloc HV0.out.size _)) ?_
            simp only [Act.put, List.getElem_toArray, List.getElem_cons_zero, List.getElem_cons_succ, List.setIfInBounds_toArray, List.set_cons_zero, List.set_cons_succ]
            have HUuj10 := Lib.hid (HV0.out.alloc HV0.out.size (.cells #[.int .i64 0, .int .i64 0, .int .i64 0, .int .i64 0, .slice none 0 0, .slice none 0 0, .int .i64 0] 42))
            have HXuj10 := Lib.hid (BoxC.made t0 #[.int .i64 0, .int .i64 0, .int .i64 0, .int .i64 0, .slice none 0 0, .slice none 0 0, .int .i64 0] 42)
            have HNBuj10 := Lib.hid HV0.out.size
            generalize hwuj10 : t0.alloc (.cells #[.int .i64 0, .int .i64 0, .int .i64 0, .int .i64 0, .slice none 0 0, .slice none 0 0, .int .i64 0] 42) = uj10 at *
            clear hwuj10
            refine TillZ.one (i := 1) (by kernel_rfl) ?_
            refine TillZ.callz (i := 1) (f := 7) (args := #[.agg #[.int .i64 c0, .int .i64 c1, .int .i64 c2, .int .i64 c3, .slice a1 n1 a3, .slice a2 n2 a4]]) rfl rfl rfl (by go_simp) ?_
            refine Calls.mono (toBook_any c0 c1 c2 c3 a1 a2 n1 n2 a3 a4 ts is uj10 ((HRW _ (HU9.out.trans (HUuj10.out.mono HU9.out.size))).out) hn1 hn2) ?_
            rintro e uj11 ⟨b1, b3, b2, b4, rfl, ho, hb⟩
            have HUuj11 := Lib.hid (HUuj10.out.trans (hb.mono HUuj10.out.size))
            have HXuj11 := Lib.hid (HXuj10.out.below hb)
            have HOuj11 := Lib.hid (ho.mono HUuj10.out.size)
            refine ⟨_, rfl, HS9.out _ HUuj11.out, ?_⟩
            clear hb ho
            simp only [Act.put, List.getElem_toArray, List.getElem_cons_zero, List.getElem_cons_succ, List.setIfInBounds_toArray, List.set_cons_zero, List.set_cons_succ]
            refine TillZ.one (i := 3) (by kernel_rfl) ?_
            refine TillZ.callz (i := 3) (f := 8) (args := #[.agg #[.int .i64 qb0, .int .i64 qb1, .int .i64 qb2, .int .i64 qb3, .int .i64 qb4, .int .i64 qb5, .string qb6, .string qb7, .int .i64 qb8, .string qb9]]) rfl rfl rfl (by go_simp) ?_
            refine Calls.mono (toDeed_any qb0 qb1 qb2 qb3 qb4 qb5 qb6 qb7 qb8 qb9 uj11) ?_
            rintro e uj12 ⟨rfl, hb⟩
            have HUuj12 := Lib.hid (HUuj11.out.trans (hb.mono HUuj11.out.size))
            have HXuj12 := Lib.hid (HXuj11.out.below hb)
            have HOuj12 := Lib.hid (HOuj11.out.below hb)
            refine ⟨_, rfl, HS9.out _ HUuj12.out, ?_⟩
            clear hb
            simp only [Act.put, List.getElem_toArray, List.getElem_cons_zero, List.getElem_cons_succ, List.setIfInBounds_toArray, List.set_cons_zero, List.set_cons_succ]
            refine TillZ.one (i := 4) (by kernel_rfl) ?_
            refine TillZ.callz (i := 4) (f := 9) (args := #[.agg #[.int .i64 c0, .int .i64 c1, .int .i64 c2, .int .i64 c3, .slice b1 n1 b3, .slice b2 n2 b4], .agg #[.int .i64 qb0, .int .i64 qb1, .int .i64 qb2, .int .i64 qb3, .int .i64 qb4, .int .i64 qb5, .string qb6, .string qb7, .int .i64 qb8, .string qb9]]) rfl rfl rfl (by go_simp) ?_
            refine Calls.mono (implBookDo_any ⟨c0, c1, c2, c3, ts, is⟩ b1 b2 n1 n2 b3 b4 qb0 qb1 qb2 qb3 qb4 qb5 qb6 qb7 qb8 qb9 uj12 HOuj12.out.read hn1 hn2 HT.out HI.out H6.out H7.out H9.out) ?_
            rintro e uj13 hnb
            rw [HRD.out] at hnb
            obtain ⟨j1, jn1, j3, j2, jn2, j4, rfl, ho, hb⟩ := hnb
            have HUuj13 := Lib.hid (HUuj12.out.trans (hb.mono HUuj12.out.size))
            have HXuj13 := Lib.hid (HXuj12.out.below hb)
            have HOuj13 := Lib.hid (HOuj12.out.below hb)
            have HQuj13 : Hid ((∀ q, (Value.slice j1 jn1 j3).ownBlock = some q → q ≠ t0.heap.size) ∧ ∀ q, (Value.slice j2 jn2 j4).ownBlock = some q → q ≠ t0.heap.size) := Lib.hid ⟨fun q hq => by have := (ho.t.lt q hq).1; have := HXuj12.out.lt; omega, fun q hq => by have := (ho.i.lt q hq).1; have := HXuj12.out.lt; omega⟩
            have HGuj13 := Lib.hid (ho.mono HUuj12.out.size)
            refine ⟨_, rfl, HS9.out _ HUuj13.out, ?_⟩
            clear hb ho
            simp only [Act.put, List.getElem_toArray, List.getElem_cons_zero, List.getElem_cons_succ, List.setIfInBounds_toArray, List.set_cons_zero, List.set_cons_succ]
            have z0 := HXuj13.out.cell 0 _ rfl
            have f0 := HXuj13.out.free 0
            have z1 := HXuj13.out.cell 1 _ rfl
            have f1 := HXuj13.out.free 1
            have z2 := HXuj13.out.cell 2 _ rfl
            have f2 := HXuj13.out.free 2
            have z3 := HXuj13.out.cell 3 _ rfl
            have f3 := HXuj13.out.free 3
            have z4 := HXuj13.out.cell 4 _ rfl
            have f4 := HXuj13.out.free 4
            have z5 := HXuj13.out.cell 5 _ rfl
            have f5 := HXuj13.out.free 5
            have z6 := HXuj13.out.cell 6 _ rfl
            have f6 := HXuj13.out.free 6
            refine TillZ.hand_skip (w' := ((((((uj13.setCell ⟨t0.heap.size, 0, none⟩ (.int .i64 r.1.c0)).setCell ⟨t0.heap.size, 1, none⟩ (.int .i64 r.1.c1)).setCell ⟨t0.heap.size, 2, none⟩ (.int .i64 r.1.c2)).setCell ⟨t0.heap.size, 3, none⟩ (.int .i64 r.1.c3)).setCell ⟨t0.heap.size, 4, none⟩ (.slice j1 jn1 j3)).setCell ⟨t0.heap.size, 5, none⟩ (.slice j2 jn2 j4)).setCell ⟨t0.heap.size, 6, none⟩ (.int .i64 r.2)) (by kernel_rfl) rfl rfl (by go_simp) ?_
            simp only [Act.put, List.getElem_toArray, List.getElem_cons_zero, List.getElem_cons_succ, List.setIfInBounds_toArray, List.set_cons_zero, List.set_cons_succ]
            refine TillZ.any_done (by kernel_rfl) ?_ _
            go_wp2_with fail
            go_meet
            case rel => exact ⟨t0.heap.size, j1, jn1, j3, j2, jn2, j4, rfl, (((((((HXuj13.out.set (j := 0) (by simp) (.int .i64 r.1.c0)).set (j := 1) (by simp) (.int .i64 r.1.c1)).set (j := 2) (by simp) (.int .i64 r.1.c2)).set (j := 3) (by simp) (.int .i64 r.1.c3)).set (j := 4) (by simp) (.slice j1 jn1 j3)).set (j := 5) (by simp) (.slice j2 jn2 j4)).set (j := 6) (by simp) (.int .i64 r.2)), ⟨(own_other (own_other (own_other (own_other (own_other (own_other (own_other HGuj13.out.t (b := t0.heap.size) HQuj13.out.1 ⟨t0.heap.size, 0, none⟩ (.int .i64 r.1.c0) rfl) (b := t0.heap.size) HQuj13.out.1 ⟨t0.heap.size, 1, none⟩ (.int .i64 r.1.c1) rfl) (b := t0.heap.size) HQuj13.out.1 ⟨t0.heap.size, 2, none⟩ (.int .i64 r.1.c2) rfl) (b := t0.heap.size) HQuj13.out.1 ⟨t0.heap.size, 3, none⟩ (.int .i64 r.1.c3) rfl) (b := t0.heap.size) HQuj13.out.1 ⟨t0.heap.size, 4, none⟩ (.slice j1 jn1 j3) rfl) (b := t0.heap.size) HQuj13.out.1 ⟨t0.heap.size, 5, none⟩ (.slice j2 jn2 j4) rfl) (b := t0.heap.size) HQuj13.out.1 ⟨t0.heap.size, 6, none⟩ (.int .i64 r.2) rfl), (own_other (own_other (own_other (own_other (own_other (own_other (own_other HGuj13.out.i (b := t0.heap.size) HQuj13.out.2 ⟨t0.heap.size, 0, none⟩ (.int .i64 r.1.c0) rfl) (b := t0.heap.size) HQuj13.out.2 ⟨t0.heap.size, 1, none⟩ (.int .i64 r.1.c1) rfl) (b := t0.heap.size) HQuj13.out.2 ⟨t0.heap.size, 2, none⟩ (.int .i64 r.1.c2) rfl) (b := t0.heap.size) HQuj13.out.2 ⟨t0.heap.size, 3, none⟩ (.int .i64 r.1.c3) rfl) (b := t0.heap.size) HQuj13.out.2 ⟨t0.heap.size, 4, none⟩ (.slice j1 jn1 j3) rfl) (b := t0.heap.size) HQuj13.out.2 ⟨t0.heap.size, 5, none⟩ (.slice j2 jn2 j4) rfl) (b := t0.heap.size) HQuj13.out.2 ⟨t0.heap.size, 6, none⟩ (.int .i64 r.2) rfl)⟩, HQuj13.out, HNBuj10.out, (((((((HUuj13.out.setCell (p := ⟨t0.heap.size, 0, none⟩) HNBuj10.out (.int .i64 r.1.c0)).setCell (p := ⟨t0.heap.size, 1, none⟩) HNBuj10.out (.int .i64 r.1.c1)).setCell (p := ⟨t0.heap.size, 2, none⟩) HNBuj10.out (.int .i64 r.1.c2)).setCell (p := ⟨t0.heap.size, 3, none⟩) HNBuj10.out (.int .i64 r.1.c3)).setCell (p := ⟨t0.heap.size, 4, none⟩) HNBuj10.out (.slice j1 jn1 j3)).setCell (p := ⟨t0.heap.size, 5, none⟩) HNBuj10.out (.slice j2 jn2 j4)).setCell (p := ⟨t0.heap.size, 6, none⟩) HNBuj10.out (.int .i64 r.2))⟩
        case rest =>
          obtain ⟨nx, j1, jn1, j3, j2, jn2, j4, rfl, hXj, hOj, hQj, hnx, hT⟩ := hcut
          have HUa := Lib.hid (HU9.out.trans (hT.mono HU9.out.size))
          have HXWa := Lib.hid (HXW9.out.below hT)
          have HOWa := Lib.hid (HOW9.out.below hT)
          have HXGa := Lib.hid (HXG9.out.below hT)
          have HOGa := Lib.hid (HOG9.out.below hT)
          have HXJa := Lib.hid hXj
          have HOJa := Lib.hid hOj
          obtain rfl : gn1 = jn1 := by have := HOWa.out.len; have := HOJa.out.len; omega
          obtain rfl : gn2 = jn2 := by have := HOWa.out.len; have := HOJa.out.len; omega
          clear hT hXj hOj hQj hnx HXW9 HOW9 HXG9 HOG9
          have x0 := (HXJa.out).cell 0 _ rfl
          have x1 := (HXJa.out).cell 1 _ rfl
          have x2 := (HXJa.out).cell 2 _ rfl
          have x3 := (HXJa.out).cell 3 _ rfl
          have x4 := (HXJa.out).cell 4 _ rfl
          have x5 := (HXJa.out).cell 5 _ rfl
          have x6 := (HXJa.out).cell 6 _ rfl
          have y0 := (HXWa.out).cell 0 _ rfl
          have y1 := (HXWa.out).cell 1 _ rfl
          have y2 := (HXWa.out).cell 2 _ rfl
          have y3 := (HXWa.out).cell 3 _ rfl
          have y4 := (HXWa.out).cell 4 _ rfl
          have y5 := (HXWa.out).cell 5 _ rfl
          have y6 := (HXWa.out).cell 6 _ rfl
          go_wp2_with fail
          refine (eqBookOut_same _ _ _ _ j1 j2 g1 g2 gn1 gn2 j3 j4 g3 g4 r.1.ts r.1.is r.2 _ HOJa.out.read HOWa.out.read HLW.out.1 HLW.out.2).mono ?_
          rintro e s4 ⟨rfl, hb⟩
          have HUb := Lib.hid (HUa.out.trans (hb.mono HUa.out.size))
          have HXGb := Lib.hid (HXGa.out.below hb)
          have HOGb := Lib.hid (HOGa.out.below hb)
          clear hb HXGa HOGa HXWa HOWa HXJa HOJa x0 x1 x2 x3 x4 x5 x6 y0 y1 y2 y3 y4 y5 y6
          have x0 := (HXGb.out).cell 0 _ rfl
          have x1 := (HXGb.out).cell 1 _ rfl
          have x2 := (HXGb.out).cell 2 _ rfl
          have x3 := (HXGb.out).cell 3 _ rfl
          have x4 := (HXGb.out).cell 4 _ rfl
          have x5 := (HXGb.out).cell 5 _ rfl
          have x6 := (HXGb.out).cell 6 _ rfl
          go_wp2_with fail
          refine (heldBookOut_any _ _ _ _ p1 p2 gn1 gn2 p3 p4 r.2 1 _ HOGb.out.read HLW.out.1 HLW.out.2 (by omega) (by omega)).mono ?_
          rintro e s5 ⟨rfl, hb⟩
          have HUc := Lib.hid (HUb.out.trans (hb.mono HUb.out.size))
          clear hb HXGb HOGb x0 x1 x2 x3 x4 x5 x6
          go_wp2_with fail
          go_ret
          exact ⟨rfl, HB0.out.trans (HUc.out.mono HB0.out.size)⟩

/-! ### THE ROW's STEP -/
set_option maxRecDepth 100000 in
theorem lifted (os : Os) (started : os.Started) (H : Type) (enc : TypeId × Value → H) :
    ReturnsInHanded {} Tryz.checked os 3 .any (Rows.fnExactBookDoSpec.pre6 enc Tryz.prog Tryz.f3 Rows.fnExactBookDoRow.domain false) (Rows.fnExactBookDoSpec.post enc Tryz.prog Tryz.f3 false true false false) := by
  refine returnsInHanded_of_change (C := Tryz.checked) own started (by kernel_rfl) Tryz.func3
    (ChangeSpec.witness6 (enc := enc) (C := Tryz.checked) false ⟨#[], #[.agg #[.int .i64 0, .int .i64 0, .int .i64 0, .int .i64 0, .slice none 0 0, .slice none 0 0], .agg #[.int .i64 0, .int .i64 0, .int .i64 0, .int .i64 0, .int .i64 0, .int .i64 0, .string ByteArray.empty, .string ByteArray.empty, .int .i64 0, .string ByteArray.empty]], []⟩ 8 (by kernel_rfl) (by kernel_rfl) (by kernel_rfl) (by kernel_rfl)) ?_
  intro W base args ds gs before hval0 hW hcnd _
  have hval : ∀ (j : Nat) t v, Tryz.f3.params[j]? = some t → args[j]? = some v → Value.okWide Tryz.prog W .any base t v := hval0
  have hW' := hW
  obtain ⟨p, q, hA0, hV, rfl, hfz, hnd⟩ := hW
  have hA : DataW.TrodAll enc Tryz.prog W 0 (fun _ => true) true Tryz.f3.params.toList args.toList ds p := hA0
  rw [Tryz.params3] at hA hval
  obtain ⟨v0, vs0, d0, ds0, p0, q_0, hargs0, rfl, rfl, h0, r0⟩ := trodAll_cons hA
  obtain ⟨v1, vs1, d1, ds1, p1, q_1, hargs1, rfl, rfl, h1, r1⟩ := trodAll_cons r0
  obtain ⟨rfl, rfl, rfl⟩ := trodAll_nil r1
  obtain rfl : args = #[v0, v1] := by cases args; simp_all
  obtain ⟨rfl, rfl⟩ := trodVars_none hV
  have k0 := h0
  have lt0 : ∀ x ∈ p0, x.block < W.heap.size := by obtain ⟨m, hm⟩ := k0; exact DataW.trod_lt m _ _ _ hm
  obtain ⟨c0, c1, c2, c3, a1, n1, a3, a2, n2, a4, ts, is, rfl, hR, hn, ht, hi⟩ := book_open (hval 0 27 v0 rfl rfl) h0
  obtain ⟨qb0, qb1, qb2, qb3, qb4, qb5, qb6, qb7, qb8, qb9, rfl, wqb, rfl, hs1⟩ := deed_open (hval 1 33 v1 rfl rfl) h1
  clear hA0 hval0
  simp only [List.append_nil] at hW'
  refine (walk c0 c1 c2 c3 a1 n1 a3 a2 n2 a4 ts is qb0 qb1 qb2 qb3 qb4 qb5 qb6 qb7 qb8 qb9 wqb W hR hn ht hi).mono fun e W' ⟨he, hg⟩ => ?_
  subst he
  exact ⟨_, rfl, _, _, _, [], _, [], hW', trodAll_mk1 (shut_bool Tryz.underlying4 _), (trodAll_cons_mk (Below.trod laidOut (by kernel_rfl) (of_decide_eq_true (by kernel_rfl)) k0 hg lt0) (trodAll_cons_mk (hs1 _ _ _) trodAll_mk0)), rfl, hg.frame _, fun h => by cases h⟩
theorem over : Rows.fnExactBookDoRow.holds Tryz.pinned (OpenSpec.ofChange Rows.fnExactBookDoSpec) :=
  OpenClaim.holds_of_wide 3 Tryz.f3 rfl rfl rfl rfl rfl rfl rfl ⟨rfl, rfl, rfl, rfl, rfl⟩ rfl rfl rfl rfl rfl (by kernel_rfl) Tryz.func3 (by kernel_rfl)
    (of_decide_eq_true (by kernel_rfl)) (by unfold Func.isWrapper; first | (rw [if_pos (by decide +kernel)]; kernel_rfl) | (rw [if_neg (by decide +kernel)]; exact ⟨rfl, rfl⟩))
    (fun os started H enc _ => lifted os started H enc)
theorem proved : Rows.FnExactBookDoSaid :=
  over
end Go.Proofs.YtnoefpkhbllmiaaGreat.fnExactBookDo
