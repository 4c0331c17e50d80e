/- Rows of envelopes; what the functions that make envelopes of parts answer. -/
import Derived.Test.YtdnbkjiijpeiiaaDoorEnvA
import Derived.Test.YtdnbkjiijpeiiaaDoorHShB
import Derived.RegionTactic
import Derived.BigRegion
namespace Go.Proofs.YtdnbkjiijpeiiaaDoor
open Go.RowKit Go.PlainAid G MGF IRow MNum MJoin
set_option linter.unusedVariables false
/-- An envelope. -/
structure Ev where
  g : Int
  n : Int
  m : Int
  x : Int
  t : ByteArray
def evD : Ev := ⟨0, 0, 0, 0, ByteArray.empty⟩
/-- An envelope in memory. -/
def evE : Enc Ev := ⟨5, fun e => [.int .i64 e.g, .int .i64 e.n, .int .i64 e.m, .int .i64 e.x, .string e.t], fun _ => rfl, by intro x v hv; simp at hv; rcases hv with rfl | rfl | rfl | rfl | rfl <;> rfl⟩
/-- A row of envelopes that can be read. -/
abbrev ER (w : World) (a : Option Addr) (n cap : Nat) (l : List Ev) : Prop := SR evE evD w a n cap l
theorem ER.at {w : World} {a : Option Addr} {n cap : Nat} {l : List Ev} (h : ER w a n cap l) {i : Nat} (hi : i < n) : ∃ g o, a = some ⟨g, o, none⟩ ∧ g < w.heap.size ∧ w.cell? ⟨g, o + i * 5, none⟩ = some (.int .i64 (l.getD i evD).g) ∧ w.cell? ⟨g, o + i * 5 + 1, none⟩ = some (.int .i64 (l.getD i evD).n) ∧ w.cell? ⟨g, o + i * 5 + 2, none⟩ = some (.int .i64 (l.getD i evD).m) ∧ w.cell? ⟨g, o + i * 5 + 3, none⟩ = some (.int .i64 (l.getD i evD).x) ∧ w.cell? ⟨g, o + i * 5 + 4, none⟩ = some (.string (l.getD i evD).t) := by
  obtain ⟨g, o, ha, hg, hc⟩ := h.cells (by omega)
  exact ⟨g, o, ha, hg, hc i hi 0 _ rfl, hc i hi 1 _ rfl, hc i hi 2 _ rfl, hc i hi 3 _ rfl, hc i hi 4 _ rfl⟩
theorem ER.own {w : World} {base n cap : Nat} {a : Option Addr} {e : TypeId} {l : List Ev} (h : w.ownsRow base e evE.k (.slice a n cap) n (evE.flat l)) : ER w a n cap l := SR.own (by decide) h
theorem envs_len {w : World} {base n cap : Nat} {a : Option Addr} {e : TypeId} {l : List Ev} (h : w.ownsRow base e evE.k (.slice a n cap) n (evE.flat l)) : l.length = n := by
  have := h.1; rw [evE.flat_length] at this; exact Nat.eq_of_mul_eq_mul_right (show 0 < evE.k by decide) this
theorem infoEnv : (Tryd.prog.info? 24).map (fun i => (i.zero, i.size, i.bytes)) = some (some (.agg #[.int .i64 0, .int .i64 0, .int .i64 0, .int .i64 0, .string ByteArray.empty]), 5, 48) := by kernel_rfl
def evOf (g n m : Int) (p : Int × ByteArray) : Ev := ⟨g, n, m, p.1, p.2⟩
def envsOk (g n m : Int) (l : List (Int × ByteArray)) : Bool := decide (l.length ≤ 20) && l.all (fun p => envB g n m p.1 p.2)
/-- The envelopes of some parts: none, if one is not right. -/
def envsL (g n m : Int) (l : List (Int × ByteArray)) : List Ev := if envsOk g n m l = true then l.map (evOf g n m) else []
theorem envsL_long {g n m : Int} {l : List (Int × ByteArray)} (h : 20 < l.length) : envsL g n m l = [] := by
  unfold envsL envsOk; rw [decide_eq_false (by omega), Bool.false_and, if_neg (by decide)]
theorem envsL_bad {g n m : Int} {l : List (Int × ByteArray)} {j : Nat} (h : j < l.length) (hb : envB g n m (l.getD j shD).1 (l.getD j shD).2 = false) : envsL g n m l = [] := by
  unfold envsL envsOk
  rw [if_neg]
  intro hh
  rw [Bool.and_eq_true] at hh
  have := List.all_eq_true.1 hh.2 (l.getD j shD) (by rw [getD_mem shD h]; exact List.getElem_mem _)
  rw [hb] at this
  cases this
theorem envsL_ok {g n m : Int} {l : List (Int × ByteArray)} (h : l.length ≤ 20) (ha : ∀ t, t < l.length → envB g n m (l.getD t shD).1 (l.getD t shD).2 = true) : envsL g n m l = l.map (evOf g n m) := by
  unfold envsL envsOk
  rw [if_pos]
  rw [decide_eq_true h, Bool.true_and, List.all_eq_true]
  intro p hp
  obtain ⟨t, ht, rfl⟩ := List.mem_iff_getElem.1 hp
  have := ha t ht
  rwa [getD_mem shD ht] at this
theorem envsL_len (g n m : Int) (l : List (Int × ByteArray)) : (envsL g n m l).length ≤ 20 := by
  unfold envsL
  by_cases h : envsOk g n m l = true
  · rw [if_pos h, List.length_map]
    unfold envsOk at h
    rw [Bool.and_eq_true, decide_eq_true_eq] at h
    exact h.1
  · rw [if_neg h]; exact Nat.zero_le _
/-- Envelopes in new memory. -/
def NewEnvs (r : List Ev) (w : World) (e : Ending) (w' : World) : Prop :=
  ∃ a k c, e = .returned (.slice a k c) ∧ w'.ownsRow w.heap.size 24 evE.k (.slice a k c) k (evE.flat r) ∧ Below w.heap.size w w'
theorem ret_envs {r l : List Ev} (h : r = l) {w w' : World} {a : Option Addr} {k cap : Nat} (ho : w'.ownsRow w.heap.size 24 evE.k (.slice a k cap) k (evE.flat l)) (hb : Below w.heap.size w w') : NewEnvs r w (.returned (.slice a k cap)) w' := by
  subst h
  exact ⟨a, k, cap, rfl, ho, hb⟩
/-- An envelope in a block of its own. -/
structure EB (w : World) (h : Nat) (g n m x : Int) (t : ByteArray) : Prop where
  lt : h < w.heap.size
  c0 : w.cell? ⟨h, 0, none⟩ = some (.int .i64 g)
  c1 : w.cell? ⟨h, 1, none⟩ = some (.int .i64 n)
  c2 : w.cell? ⟨h, 2, none⟩ = some (.int .i64 m)
  c3 : w.cell? ⟨h, 3, none⟩ = some (.int .i64 x)
  c4 : w.cell? ⟨h, 4, none⟩ = some (.string t)
  free : w.frozen? ⟨h, 4, none⟩ = false
theorem EB.below {w w' : World} {h : Nat} {g n m x : Int} {t : ByteArray} (k : EB w h g n m x t) (hb : Below w.heap.size w w') : EB w' h g n m x t :=
  ⟨Nat.lt_of_lt_of_le k.lt hb.size, (hb.cell (p := ⟨h, 0, none⟩) k.lt).trans k.c0, (hb.cell (p := ⟨h, 1, none⟩) k.lt).trans k.c1, (hb.cell (p := ⟨h, 2, none⟩) k.lt).trans k.c2, (hb.cell (p := ⟨h, 3, none⟩) k.lt).trans k.c3, (hb.cell (p := ⟨h, 4, none⟩) k.lt).trans k.c4, (hb.frozen (p := ⟨h, 4, none⟩) k.lt).trans k.free⟩
theorem map_take {g n m : Int} {l : List (Int × ByteArray)} {j : Nat} (h : j < l.length) : (l.take (j + 1)).map (evOf g n m) = (l.take j).map (evOf g n m) ++ [⟨g, n, m, (l.getD j shD).1, (l.getD j shD).2⟩] := by
  rw [take_getDS h, List.map_append]; rfl
set_option maxRecDepth 100000 in
set_option maxHeartbeats 3200000 in
theorem implEnvelopes_any (g n m : Int) (a : Option Addr) (k cap : Nat) (l : List (Int × ByteArray)) (w : World) (h : HR w a k cap l) (hk : k ≤ 1048576) (ht : ∀ t, t < k → (l.getD t shD).2.size ≤ maxLen) :
    Calls Tryd.prog 10 #[.int .i64 g, .int .i64 n, .int .i64 m, .slice a k cap] w (NewEnvs (envsL g n m l) w) := by
  have hl := h.len
  have HT := Lib.hid ht
  clear ht
  by_cases h20 : 20 < k
  · have HF : Hid (envsL g n m l = []) := Lib.hid (envsL_long (by omega))
    clear hl
    go_enter Tryd.func10, Tryd.ntmps10
    go_wp2_with fail
    go_ret
    exact ret_envs HF.out (World.ownsRow_nil _ _ _ _) (Below.refl _ _)
  · obtain ⟨i0, hi, hz0, hz1, hz2⟩ := info_parts infoEnv
    have HL := Lib.hid hl
    clear hl
    go_enter Tryd.func10, Tryd.ntmps10
    go_wp2_with (at_make; refine wpList_make_own _ rfl (.const (.int .i64 0)) (.tmp 17) 34 rfl w.heap.size 24 i0 (.agg #[.int .i64 0, .int .i64 0, .int .i64 0, .int .i64 0, .string ByteArray.empty]) 5 Tryd.underlying34 hi hz0 hz1 .i64 .i64 _ k rfl rfl rfl (by rw [hz2]; omega) (by unfold maxLen; omega) (Nat.le_refl _) ?_; intro w4 hown4 hg4; have HO4 : Hid (w4.ownsRow w.heap.size 24 evE.k _ 0 (evE.flat ((l.take 0).map (evOf g n m)))) := Lib.hid hown4; have HB4 := Lib.hid (below_of_none hg4); clear hown4 hg4)
    go_loopw [9, 21] (fun v i wr => ∃ j : Nat, j ≤ k ∧ i = .int .i64 j ∧ wr.ownsRow w.heap.size 24 evE.k v j (evE.flat ((l.take j).map (evOf g n m))) ∧ Hid (∀ t, t < j → envB g n m (l.getD t shD).1 (l.getD t shD).2 = true) ∧ Below w.heap.size w wr) (fun _ i _ => k - (intOf i).toNat)
    case atStart => exact ⟨0, Nat.zero_le _, rfl, HO4.out, Lib.hid (fun t ht => absurd ht (Nat.not_lt_zero _)), HB4.out⟩
    case round =>
      obtain ⟨j, hj, rfl, hown, HA, hB⟩ := hrel
      by_cases hlt : j < k
      · obtain ⟨gs, os, rfl, hgs, hc1, hc2⟩ := h.at hlt
        have hck := (hB.cell (p := ⟨gs, os + j * 2, none⟩) hgs).trans hc1
        have hck2 := (hB.cell (p := ⟨gs, os + j * 2 + 1, none⟩) hgs).trans hc2
        have HTJ := Lib.hid (HT.out j hlt)
        have HTK := Lib.hid (map_take (g := g) (n := n) (m := m) (l := l) (j := j) (by rw [HL.out]; exact hlt))
        have HBAD : Hid (envB g n m (l.getD j shD).1 (l.getD j shD).2 = false → envsL g n m l = []) := Lib.hid (fun hb => envsL_bad (by rw [HL.out]; exact hlt) hb)
        have HA2 : Hid (envB g n m (l.getD j shD).1 (l.getD j shD).2 = true → ∀ t, t < j + 1 → envB g n m (l.getD t shD).1 (l.getD t shD).2 = true) := Lib.hid (fun hb t ht => by
          by_cases e : t = j
          · rw [e]; exact hb
          · exact HA.out t (by omega))
        have HO := Lib.hid hown
        have HB := Lib.hid hB
        generalize (l.getD j shD).1 = x at *
        generalize (l.getD j shD).2 = t at *
        clear hown hB hc1 hc2 HB4 HO4
        go_wp2_with fail
        refine (implEnvRight_any g n m x t _ HTJ.out).mono ?_
        rintro e w5 ⟨rfl, hb⟩
        have hE : EB w5 (wr.heap.size + 1) g n m x t := ⟨Nat.lt_of_lt_of_le (by simp) hb.size, (hb.cell (p := ⟨wr.heap.size + 1, 0, none⟩) (by simp)).trans (by simp), (hb.cell (p := ⟨wr.heap.size + 1, 1, none⟩) (by simp)).trans (by simp), (hb.cell (p := ⟨wr.heap.size + 1, 2, none⟩) (by simp)).trans (by simp), (hb.cell (p := ⟨wr.heap.size + 1, 3, none⟩) (by simp)).trans (by simp), (hb.cell (p := ⟨wr.heap.size + 1, 4, none⟩) (by simp)).trans (by simp), (hb.frozen (p := ⟨wr.heap.size + 1, 4, none⟩) (by simp)).trans (by simp)⟩
        have hS : w5.cell? ⟨wr.heap.size, 1, none⟩ = some (.string t) := (hb.cell (p := ⟨wr.heap.size, 1, none⟩) (by simp; omega)).trans (by simp)
        have hbW : Below wr.heap.size wr w5 := Below.trans (by repeat' (first | exact Below.refl _ _ | refine Below.setCell ?_ (by first | exact Nat.le_refl _ | (simp; done) | (simp; omega)) _ | refine Below.alloc ?_ (by first | exact Nat.le_refl _ | (simp; done) | (simp; omega)) _)) (hb.mono (by simp; omega))
        have hown5 := own_below HO.out hbW
        have hB5 := HB.out.trans (hbW.mono HB.out.size)
        have hnb : ∀ q, u9.ownBlock = some q → q ≠ wr.heap.size + 1 := fun q hq => by have := (HO.out.lt q hq).2; omega
        have hhs : w.heap.size ≤ wr.heap.size := HB.out.size
        obtain ⟨hs, hse⟩ : ∃ hs, hs = wr.heap.size := ⟨_, rfl⟩
        rw [← hse] at hE hS hnb hhs ⊢
        have HE5 := Lib.hid hE
        have HO5 := Lib.hid hown5
        have HB5 := Lib.hid hB5
        have HNB := Lib.hid hnb
        clear hb hE hown5 hB5 hbW hnb HO HB hck hck2 hse
        cases hv : envB g n m x t
        · have HF := Lib.hid (HBAD.out hv)
          clear hv HA2 hS
          go_wp2_with fail
          go_ret
          exact ret_envs HF.out (World.ownsRow_nil _ _ _ _) HB5.out
        · have HA3 := Lib.hid (HA2.out hv)
          have ht16 := (envB_bounds hv).2.2.2.2.2
          clear hv HA2 HBAD
          go_wp2_with fail
          refine (joined_one t _ _ (by omega)).mono ?_
          rintro e w6 ⟨rfl, hb⟩
          have HE6 := Lib.hid (HE5.out.below hb)
          have HO6 := Lib.hid (own_below HO5.out hb)
          have HB6 := Lib.hid (HB5.out.trans (hb.mono HB5.out.size))
          obtain ⟨lt6, c0, c1, c2, c3, c4, hfz⟩ := HE6.out
          have hown7 := own_other HO6.out HNB.out ⟨hs + 1, 4, none⟩ (.string t) rfl
          have HO7 := Lib.hid hown7
          have hsz7 : w.heap.size ≤ (w6.setCell ⟨hs + 1, 4, none⟩ (.string t)).heap.size := by rw [World.size_setCell]; exact HB6.out.size
          have HB7 : Hid (Below w.heap.size w (w6.setCell ⟨hs + 1, 4, none⟩ (.string t))) := Lib.hid (HB6.out.setCell (p := ⟨hs + 1, 4, none⟩) (by dsimp only; omega) _)
          clear hb hS ht16
          go_wp2_with (at_builtin; refine append_enc evE rfl (.tmp 41) (.tmp 43) 34 rfl 24 i0 (.agg #[.int .i64 0, .int .i64 0, .int .i64 0, .int .i64 0, .string ByteArray.empty]) 48 Tryd.underlying34 hi hz0 hz1 hz2 rfl (by decide) (by decide) w.heap.size _ _ _ rfl hown7 ⟨g, n, m, x, t⟩ _ rfl _ (by rw [World.size_setCell]; rfl) hsz7 (by omega) ?_; intro v' w8 hown8 hg8 _; have HO8 := Lib.hid hown8; have HB8 := Lib.hid (below_grow HB7.out HO7.out (Nat.le_refl _) hg8 hsz7); clear hown8 hg8 hown7)
          go_roundw
          case rel => exact ⟨j + 1, by omega, by go_num, by rw [HTK.out]; exact HO8.out, HA3, HB8.out⟩
          case measure => simp [intOf]; omega
      · obtain rfl : j = k := by omega
        obtain ⟨ar, cr, rfl⟩ := own_shape hown
        have HF : Hid (envsL g n m l = (l.take j).map (evOf g n m)) := Lib.hid (by
          rw [envsL_ok (by rw [HL.out]; omega) (by rw [HL.out]; exact HA.out), List.take_of_length_le (by rw [HL.out]; exact Nat.le_refl _)])
        have HO := Lib.hid hown
        have HB := Lib.hid hB
        clear hown hB
        go_wp2_with fail
        go_ret
        exact ret_envs HF.out HO.out HB.out
theorem own_lit0 (u : World) (o : Obj) {base : Nat} (hb : base ≤ u.heap.size) : ((u.alloc o).alloc (.cells #[] 24)).drew.ownsRow base 24 evE.k (.slice (some ⟨u.heap.size + 1, 0, none⟩) 0 0) 0 (evE.flat []) := by
  have h : ((u.alloc o).alloc (.cells #[] 24)).ownsRow base 24 evE.k (.slice (some ⟨(u.alloc o).heap.size, 0, none⟩) 0 0) 0 (evE.flat []) := World.ownsRow_made (u.alloc o) #[] 0 (by rw [World.size_alloc]; omega) (by decide) rfl
  rw [World.size_alloc] at h
  exact own_below h (Below.refl _ _).drew
set_option maxRecDepth 100000 in
set_option maxHeartbeats 3200000 in
theorem specEnvelopes_any (g n m : Int) (a : Option Addr) (k cap : Nat) (l : List (Int × ByteArray)) (w : World) (h : HR w a k cap l) (hk : k ≤ 1048576) (ht : ∀ t, t < k → (l.getD t shD).2.size ≤ maxLen) :
    Calls Tryd.prog 11 #[.int .i64 g, .int .i64 n, .int .i64 m, .slice a k cap] w (NewEnvs (envsL g n m l) w) := by
  have HL := Lib.hid h.len
  have HT := Lib.hid ht
  clear ht
  obtain ⟨i0, hi, hz0, hz1, hz2⟩ := info_parts infoEnv
  have HO4 : Hid ((w.alloc (.cells #[] 24)).ownsRow w.heap.size 24 evE.k (.slice (some ⟨w.heap.size, 0, none⟩) 0 0) 0 (evE.flat ((l.take 0).map (evOf g n m)))) := Lib.hid (World.ownsRow_made w #[] 0 (Nat.le_refl _) (by decide) rfl)
  have HB4 : Hid (Below w.heap.size w (w.alloc (.cells #[] 24))) := Lib.hid ((Below.refl _ _).alloc (Nat.le_refl _) _)
  go_enter Tryd.func11, Tryd.ntmps11
  go_wp2_with fail
  go_loopw [9, 10] (fun v i wr => ∃ j : Nat, j ≤ k ∧ i = .int .i64 j ∧ wr.ownsRow w.heap.size 24 evE.k v j (evE.flat ((l.take j).map (evOf g n m))) ∧ Hid (∀ t, t < j → envB g n m (l.getD t shD).1 (l.getD t shD).2 = true) ∧ Hid (0 < j → k ≤ 20) ∧ Below w.heap.size w wr) (fun _ i _ => k - (intOf i).toNat)
  case atStart => exact ⟨0, Nat.zero_le _, rfl, HO4.out, Lib.hid (fun t ht => absurd ht (Nat.not_lt_zero _)), Lib.hid (fun h => absurd h (Nat.lt_irrefl 0)), HB4.out⟩
  case round =>
    obtain ⟨j, hj, rfl, hown, HA, HK, hB⟩ := hrel
    by_cases hlt : j < k
    · obtain ⟨gs, os, rfl, hgs, hc1, hc2⟩ := h.at hlt
      have hck := (hB.cell (p := ⟨gs, os + j * 2, none⟩) hgs).trans hc1
      have hck2 := (hB.cell (p := ⟨gs, os + j * 2 + 1, none⟩) hgs).trans hc2
      have hgw : gs < wr.heap.size := Nat.lt_of_lt_of_le hgs hB.size
      have hal : ∀ o : Obj, (wr.alloc o).cell? ⟨gs, os + j * 2, none⟩ = some (.int .i64 (l.getD j shD).1) := fun o => (((Below.refl wr.heap.size wr).alloc (Nat.le_refl _) o).cell (p := ⟨gs, os + j * 2, none⟩) hgw).trans hck
      have hal2 : ∀ o : Obj, (wr.alloc o).cell? ⟨gs, os + j * 2 + 1, none⟩ = some (.string (l.getD j shD).2) := fun o => (((Below.refl wr.heap.size wr).alloc (Nat.le_refl _) o).cell (p := ⟨gs, os + j * 2 + 1, none⟩) hgw).trans hck2
      have HTJ := Lib.hid (HT.out j hlt)
      have HTK := Lib.hid (map_take (g := g) (n := n) (m := m) (l := l) (j := j) (by rw [HL.out]; exact hlt))
      have HBAD : Hid (envB g n m (l.getD j shD).1 (l.getD j shD).2 = false → envsL g n m l = []) := Lib.hid (fun hb => envsL_bad (by rw [HL.out]; exact hlt) hb)
      have HLONG : Hid (20 < k → envsL g n m l = []) := Lib.hid (fun hb => envsL_long (by rw [HL.out]; exact hb))
      have HA2 : Hid (envB g n m (l.getD j shD).1 (l.getD j shD).2 = true → ∀ t, t < j + 1 → envB g n m (l.getD t shD).1 (l.getD t shD).2 = true) := Lib.hid (fun hb t ht => by
        by_cases e : t = j
        · rw [e]; exact hb
        · exact HA.out t (by omega))
      have HO := Lib.hid hown
      have HB := Lib.hid hB
      generalize (l.getD j shD).1 = x at *
      generalize (l.getD j shD).2 = t at *
      clear hown hB hc1 hc2 HB4 HO4
      by_cases h20 : 20 < k
      · skip
        have hd20 : decide (20 < (k : Int)) = true := decide_eq_true (by omega)
        have HF := Lib.hid (HLONG.out h20)
        go_wp2_with fail
        go_region
        go_wp2_with fail
        go_ret
        exact ret_envs HF.out (own_lit0 wr _ HB.out.size) (((HB.out.alloc HB.out.size _).alloc (by rw [World.size_alloc]; have := HB.out.size; omega) _).drew)
      · skip
        have hd20 : decide (20 < (k : Int)) = false := decide_eq_false (by omega)
        go_wp2_with fail
        go_region
        go_wp2_with fail
        refine (specEnvRight_any g n m x t _ HTJ.out).mono ?_
        rintro e w5 ⟨rfl, hb⟩
        have hE : EB w5 wr.heap.size g n m x t := ⟨Nat.lt_of_lt_of_le (by simp) hb.size, (hb.cell (p := ⟨wr.heap.size, 0, none⟩) (by simp)).trans (by simp), (hb.cell (p := ⟨wr.heap.size, 1, none⟩) (by simp)).trans (by simp), (hb.cell (p := ⟨wr.heap.size, 2, none⟩) (by simp)).trans (by simp), (hb.cell (p := ⟨wr.heap.size, 3, none⟩) (by simp)).trans (by simp), (hb.cell (p := ⟨wr.heap.size, 4, none⟩) (by simp)).trans (by simp), (hb.frozen (p := ⟨wr.heap.size, 4, none⟩) (by simp)).trans (by simp)⟩
        have hbW : Below wr.heap.size wr w5 := Below.trans (by repeat' (first | exact Below.refl _ _ | refine Below.drew ?_ | refine Below.setCell ?_ (by first | exact Nat.le_refl _ | (simp; done) | (simp; omega)) _ | refine Below.alloc ?_ (by first | exact Nat.le_refl _ | (simp; done) | (simp; omega)) _)) (hb.mono (by simp))
        have HO5 := Lib.hid (own_below HO.out hbW)
        have HB5 := Lib.hid (HB.out.trans (hbW.mono HB.out.size))
        have HK5 : Hid (0 < j + 1 → k ≤ 20) := Lib.hid (fun _ => by omega)
        have hsz5 : w.heap.size ≤ w5.heap.size := HB5.out.size
        obtain ⟨hs, hse⟩ : ∃ hs, hs = wr.heap.size := ⟨_, rfl⟩
        rw [← hse] at hE ⊢
        have HE5 := Lib.hid hE
        clear hb hE hbW HO HB hck hck2 hal hal2 hse hd20
        cases hv : envB g n m x t
        · have HF := Lib.hid (HBAD.out hv)
          have HOE : Hid ((w5.alloc (.cells #[] 24)).ownsRow w.heap.size 24 evE.k (.slice (some ⟨w5.heap.size, 0, none⟩) 0 0) 0 (evE.flat [])) := Lib.hid (World.ownsRow_made w5 #[] 0 hsz5 (by decide) rfl)
          clear hv HA2
          go_wp2_with fail
          go_ret
          exact ret_envs HF.out HOE.out (HB5.out.alloc hsz5 _)
        · have HA3 := Lib.hid (HA2.out hv)
          have hown7 := HO5.out
          obtain ⟨lt6, c0, c1, c2, c3, c4, hfz⟩ := HE5.out
          clear hv HA2 HBAD hfz
          go_wp2_with (at_builtin; refine append_enc evE rfl (.tmp 42) (.tmp 44) 34 rfl 24 i0 (.agg #[.int .i64 0, .int .i64 0, .int .i64 0, .int .i64 0, .string ByteArray.empty]) 48 Tryd.underlying34 hi hz0 hz1 hz2 rfl (by decide) (by decide) w.heap.size _ _ _ rfl hown7 ⟨g, n, m, x, t⟩ _ rfl _ rfl hsz5 (by omega) ?_; intro v' w8 hown8 hg8 _; have HO8 := Lib.hid hown8; have HB8 := Lib.hid (below_grow HB5.out HO5.out (Nat.le_refl _) hg8 hsz5); clear hown8 hg8 hown7)
          go_roundw
          case rel => exact ⟨j + 1, by omega, by go_num, by rw [HTK.out]; exact HO8.out, HA3, HK5, HB8.out⟩
          case measure => simp [intOf]; omega
    · obtain rfl : j = k := by omega
      have hl20 : j ≤ 20 := by
        by_cases h0 : 0 < j
        · exact HK.out h0
        · omega
      obtain ⟨ar, cr, rfl⟩ := own_shape hown
      have HF : Hid (envsL g n m l = (l.take j).map (evOf g n m)) := Lib.hid (by
        rw [envsL_ok (by rw [HL.out]; omega) (by rw [HL.out]; exact HA.out), List.take_of_length_le (by rw [HL.out]; exact Nat.le_refl _)])
      have HO := Lib.hid hown
      have HB := Lib.hid hB
      clear hown hB
      go_wp2_with fail
      go_ret
      exact ret_envs HF.out HO.out HB.out
end Go.Proofs.YtdnbkjiijpeiiaaDoor
