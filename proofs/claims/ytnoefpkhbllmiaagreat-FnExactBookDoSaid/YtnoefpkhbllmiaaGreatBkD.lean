/- A draft: a book that deeds are done to, its items in a map. -/
import Derived.Test.YtnoefpkhbllmiaaGreatBkM
import Derived.Test.YtnoefpkhbllmiaaGreatAppZ
import Derived.Test.YtnoefpkhbllmiaaGreatBkPC
import Derived.Test.YtnoefpkhbllmiaaGreatTillZ
import Derived.Maps.OwnSet
import Derived.Lib.SliceRun
namespace Go.Proofs.YtnoefpkhbllmiaaGreat
open Go.RowKit Go.PlainAid G IRow
open Go.Maps (Keyed string_keyed)
open Go.WideMaps (keyOf_string_mk)
set_option linter.unusedVariables false
theorem nilTerm (w : World) (a : Option Addr) (n c n' c' : Nat) : (binOp .eql 37 (.slice a n c) (.slice none n' c')).run Tryz.prog w = .ok (.bool a.isNone) w := Lib.run_eql_slice_nil w _ _ a n c n' c' Tryz.underlying37
theorem clone_any (a : Option Addr) (n cap : Nat) (ts : List Tm) (w : World) (h : TmR w a n cap ts) (hn : n ≤ 1048576) :
    Calls Tryz.prog 64 #[.slice a n cap] w fun e w' => ∃ v, e = .returned v ∧ w'.ownsRow w.heap.size 45 tmE.k v n (tmE.flat ts) ∧ Below w.heap.size w w' := by
  obtain ⟨i1, hi1, hz1, hs1, hy1⟩ := info_parts infoTerm
  have hnil := nilTerm
  cases a with
  | none =>
    have hc := h.nil rfl
    have hm0 : n = 0 := by have := h.le; omega
    subst hc hm0
    have hq : ts = [] := List.eq_nil_of_length_eq_zero h.len
    subst hq
    go_enter Tryz.func64, Tryz.ntmps64
    go_wp2_with fail
    go_ret
    exact ⟨_, rfl, World.ownsRow_nil _ _ _ _, Below.refl _ _⟩
  | some ad =>
    have HR : Hid (TmR (w.alloc (.cells #[] 45)) (some ad) n cap ts) := Lib.hid (SR.below h ((Below.refl _ _).alloc (Nat.le_refl _) _))
    clear h
    have HO := Lib.hid (own_made0 tmE w 45 (Nat.le_refl _))
    have HB := Lib.hid ((Below.refl w.heap.size w).alloc (Nat.le_refl _) (.cells #[] 45))
    go_enter Tryz.func64, Tryz.ntmps64
    go_wp2_with (at_builtin; refine append_wl tmE tmD rfl _ _ 37 rfl 45 i1 _ 24 Tryz.underlying37 hi1 hz1 hs1 hy1 rfl (by decide) (by decide) w.heap.size _ 0 [] rfl HO.out _ n cap ts rfl HR.out HB.out.size (by omega) (by omega) ?_; intro v' w' ho hg; have HO1 := Lib.hid ho; have HB1 := Lib.hid (HB.out.grown hg HB.out.size (fun q hq => (HO.out.lt q hq).1)); clear ho hg)
    go_ret
    exact ⟨_, rfl, by have := HO1.out; rwa [Nat.zero_add, List.nil_append] at this, HB1.out⟩
/-- A draft that lies in block B, its items in the map M, its terms in a row of its own (v). -/
structure Dr (w : World) (base B M : Nat) (v : Value) (b : Bk) : Prop where
  box : BoxC w B [.int .i64 b.c0, .int .i64 b.c1, .int .i64 b.c2, .int .i64 b.c3, v, .map (some M)]
  row : w.ownsRow base 45 tmE.k v b.ts.length (tmE.flat b.ts)
  far : ∀ q, v.ownBlock = some q → q ≠ B ∧ q ≠ M
  hB : base ≤ B
  hM : base ≤ M
  ne : M ≠ B
  map : w.ownsMap Tryz.prog 9 imR M b.is.length (mapI b.is)
  rise : RiseI b.is
theorem keyS : Keyed Tryz.prog 9 := string_keyed Tryz.underlying9
theorem imKey_of {s : ByteArray} (hs : s.size ≤ maxLen) : keyOf Tryz.prog 9 (.string s) = some (imKey s) := keyOf_string_mk Tryz.underlying9 hs
theorem zeroItem (w : World) : (zeroValue 46).run Tryz.prog w = .ok (.agg #[.string ⟨#[]⟩, .int .i64 0, .string ⟨#[]⟩]) w := by kernel_rfl
theorem map_below {H : Type} {P : Program} {k : TypeId} {R : Value → Option (DataW H × List MemPlace)} {w w' : World} {b n : Nat} {D : DataW H} (h : w.ownsMap P k R b n D) (hb : Below w.heap.size w w') : w'.ownsMap P k R b n D := by
  obtain ⟨es, clock, h1, F, hs, hD⟩ := h
  have hlt : b < w.heap.size := by
    rcases Nat.lt_or_ge b w.heap.size with h2 | h2
    · exact h2
    · rw [Array.getElem?_eq_none h2] at h1; cases h1
  exact ⟨es, clock, (hb.block b hlt).trans h1, F, hs, hD⟩
theorem map_tight {H : Type} {P : Program} {k : TypeId} {R : Value → Option (DataW H × List MemPlace)} {w : World} {b n : Nat} {D : DataW H} (h : w.ownsMap P k R b n D) : w.ownsMap P k R b (Maps.size D) D := by
  obtain ⟨es, clock, h1, F, hs, rfl⟩ := h
  exact ⟨es, clock, h1, F, by simp [Maps.size, Go.length_sorted], rfl⟩
theorem Dr.below {w w' : World} {base B M : Nat} {v : Value} {b : Bk} (h : Dr w base B M v b) (hb : Below w.heap.size w w') : Dr w' base B M v b :=
  ⟨h.box.below hb, own_below h.row hb, h.far, h.hB, h.hM, h.ne, map_below h.map hb, h.rise⟩
theorem gen_last (x : Im) : ∀ {l : List Im}, RiseI (l ++ [x]) → genI [x] x.nm l = l ++ [x]
  | [], _ => rfl
  | y :: r, h => by
    obtain ⟨h0, hr⟩ := List.pairwise_cons.1 (show RiseI (y :: (r ++ [x])) from h)
    unfold genI
    rw [if_pos (h0 x (by simp)), gen_last x hr]
    rfl
set_option maxRecDepth 100000 in
set_option maxHeartbeats 3200000 in
theorem draftOf_any (b : Bk) (a1 a2 : Option Addr) (n1 n2 a3 a4 : Nat) (w : World) (h : BkR w a1 n1 a3 a2 n2 a4 b.ts b.is) (hn1 : n1 ≤ 5) (hn2 : n2 ≤ 8) (hr : RiseI b.is) (hs2 : ∀ t, t < n2 → (b.is.getD t imD).nm.size ≤ maxLen) :
    Calls Tryz.prog 49 #[.agg #[.int .i64 b.c0, .int .i64 b.c1, .int .i64 b.c2, .int .i64 b.c3, .slice a1 n1 a3, .slice a2 n2 a4]] w fun e w' => ∃ B M v, e = .returned (.pointer (some ⟨B, 0, none⟩)) ∧ Dr w' w.heap.size B M v b ∧ Below w.heap.size w w' := by
  obtain ⟨c0, c1, c2, c3, ts, is⟩ := b
  dsimp only at h hr hs2 ⊢
  have hl1 : ts.length = n1 := h.t.len
  have hl2 : is.length = n2 := h.i.len
  have HS2 := Lib.hid hs2
  have HR := Lib.hid h
  have HRI := Lib.hid hr
  clear hs2 h hr
  have hmm := @run_makeMap Tryz.prog
  go_enter Tryz.func49, Tryz.ntmps49
  go_wp2_with fail
  have HM0 : Hid (((w.alloc (.cells #[.int .i64 c0, .int .i64 c1, .int .i64 c2, .int .i64 c3, .slice a1 n1 a3, .slice a2 n2 a4] 40)).alloc (.map #[] 0)).ownsMap Tryz.prog 9 imR (w.heap.size + 1) 0 (mapI (is.take 0))) := Lib.hid (by have := World.ownsMap_made (w.alloc (.cells #[.int .i64 c0, .int .i64 c1, .int .i64 c2, .int .i64 c3, .slice a1 n1 a3, .slice a2 n2 a4] 40)) Tryz.prog 9 imR; rwa [World.size_alloc] at this)
  have HB0 : Hid (Below w.heap.size w ((w.alloc (.cells #[.int .i64 c0, .int .i64 c1, .int .i64 c2, .int .i64 c3, .slice a1 n1 a3, .slice a2 n2 a4] 40)).alloc (.map #[] 0))) := Lib.hid (((Below.refl _ _).alloc (Nat.le_refl _) _).alloc (by simp) _)
  have HA0 : Hid (BoxC ((w.alloc (.cells #[.int .i64 c0, .int .i64 c1, .int .i64 c2, .int .i64 c3, .slice a1 n1 a3, .slice a2 n2 a4] 40)).alloc (.map #[] 0)) w.heap.size [.int .i64 c0, .int .i64 c1, .int .i64 c2, .int .i64 c3, .slice a1 n1 a3, .slice a2 n2 a4]) := Lib.hid ((BoxC.made _ _ _).alloc _)
  go_loopw [10] (fun i wr => ∃ k : Nat, k ≤ n2 ∧ i = .int .i64 k ∧ Hid (wr.ownsMap Tryz.prog 9 imR (w.heap.size + 1) k (mapI (is.take k))) ∧ Hid (Below w.heap.size w wr) ∧ Hid (BoxC wr w.heap.size [.int .i64 c0, .int .i64 c1, .int .i64 c2, .int .i64 c3, .slice a1 n1 a3, .slice a2 n2 a4])) (fun i _ => n2 - (intOf i).toNat)
  case atStart => exact ⟨0, Nat.zero_le _, rfl, HM0, HB0, HA0⟩
  case round =>
    obtain ⟨k, hk, rfl, HM, HB, HA⟩ := hrel
    clear HM0 HB0 HA0
    by_cases hlt : k < n2
    · obtain ⟨g, o, rfl, hg, t0, t1, t2⟩ := ImR.at (SR.below HR.out.i HB.out) hlt
      have hin : 0 ≤ (k : Int) ∧ (k : Int) < (n2 : Int) := by omega
      have hsz := HS2.out k hlt
      have HN : Hid (mapI (is.take (k + 1)) = (mapI (is.take k)).put (imKey (is.getD k imD).nm) (imDat (is.getD k imD))) := Lib.hid (by
        have e1 : is.take (k + 1) = is.take k ++ [is.getD k imD] := by
          rw [show is.getD k imD = is[k]'(by omega) by simp [List.getD, List.getElem?_eq_getElem (show k < is.length by omega)]]
          exact (List.take_append_getElem (by omega)).symm
        have e2 : RiseI (is.take (k + 1)) := List.Pairwise.sublist (List.take_sublist _ _) HRI.out
        rw [e1] at e2
        rw [e1, ← gen_last _ e2]
        exact mapI_put (List.Pairwise.sublist (List.take_sublist _ _) HRI.out))
      have HIM : Hid (is.getD k imD = ⟨(is.getD k imD).nm, (is.getD k imD).tm, (is.getD k imD).bd⟩) := Lib.hid rfl
      generalize is.getD k imD = im at *
      obtain ⟨nm, tm, bd⟩ := im
      dsimp only at t0 t1 t2 hsz HN
      clear HIM
      have hown := World.ownsMap.alloc HM.out (.cells #[.string nm, .int .i64 tm, .string bd] 46)
      go_wp2_with (at_mapUpdate; refine wpList_mapUpdate_own _ rfl _ _ _ 100 rfl 9 46 keyS Tryz.underlying100 imR (w.heap.size + 1) k _ rfl hown (by unfold maxLen; omega) _ _ (imKey nm) rfl rfl (imKey_of hsz) (imDat ⟨nm, tm, bd⟩) [] rfl ?_; intro w5 hown5 hg5)
      have HB5 : Hid (Below w.heap.size w w5) := Lib.hid ((HB.out.alloc HB.out.size _).grown hg5 (HB.out.alloc HB.out.size _).size (fun q hq => by simp at hq; omega))
      have HA5 : Hid (BoxC w5 w.heap.size [.int .i64 c0, .int .i64 c1, .int .i64 c2, .int .i64 c3, .slice a1 n1 a3, .slice (some ⟨g, o, none⟩) n2 a4]) := Lib.hid ((HA.out.alloc _).grown hg5 (by simp))
      rw [← HN.out] at hown5
      have HM5 := Lib.hid hown5
      clear hown5 hg5 hown t0 t1 t2
      go_roundw
      case rel => exact ⟨k + 1, by omega, by go_num, HM5, HB5, HA5⟩
      case measure => simp [intOf]; omega
    · obtain rfl : n2 = k := by omega
      have x0 := HA.out.cell 0 _ rfl
      have x1 := HA.out.cell 1 _ rfl
      have x2 := HA.out.cell 2 _ rfl
      have x3 := HA.out.cell 3 _ rfl
      have x4 := HA.out.cell 4 _ rfl
      go_wp2_with fail
      have hmx : Tryz.prog.follows .mixedOrders = true := by kernel_rfl
      refine TillZ.region (t := 8) hmx (fun u => BoxC u w.heap.size [.int .i64 c0, .int .i64 c1, .int .i64 c2, .int .i64 c3, .slice a1 n1 a3, .slice a2 n2 a4]) ?_
      have hS0 := HA.out.drew
      clear x0 x1 x2 x3 x4
      refine TillZ.take (i := 0) (v := .pointer (some ⟨w.heap.size, 0, none⟩)) rfl rfl rfl (by kernel_rfl) (by kernel_rfl) (by kernel_rfl) (by kernel_rfl) hS0 (fun u hu => by go_simp) ?_
      simp only [Act.put, List.getElem_toArray, List.getElem_cons_zero, List.getElem_cons_succ, List.setIfInBounds_toArray, List.set_cons_zero, List.set_cons_succ]
      refine TillZ.take (i := 1) (v := .agg #[.int .i64 c0, .int .i64 c1, .int .i64 c2, .int .i64 c3]) rfl rfl rfl (by kernel_rfl) (by kernel_rfl) (by kernel_rfl) (by kernel_rfl) hS0 (fun u hu => by have z0 := hu.cell 0 _ rfl; have z1 := hu.cell 1 _ rfl; have z2 := hu.cell 2 _ rfl; have z3 := hu.cell 3 _ rfl; go_simp) ?_
      simp only [Act.put, List.getElem_toArray, List.getElem_cons_zero, List.getElem_cons_succ, List.setIfInBounds_toArray, List.set_cons_zero, List.set_cons_succ]
      refine TillZ.take (i := 2) (v := .pointer (some ⟨w.heap.size, 4, none⟩)) rfl rfl rfl (by kernel_rfl) (by kernel_rfl) (by kernel_rfl) (by kernel_rfl) hS0 (fun u hu => by go_simp) ?_
      simp only [Act.put, List.getElem_toArray, List.getElem_cons_zero, List.getElem_cons_succ, List.setIfInBounds_toArray, List.set_cons_zero, List.set_cons_succ]
      refine TillZ.take (i := 3) (v := .slice a1 n1 a3) rfl rfl rfl (by kernel_rfl) (by kernel_rfl) (by kernel_rfl) (by kernel_rfl) hS0 (fun u hu => by have z4 := hu.cell 4 _ rfl; go_simp) ?_
      simp only [Act.put, List.getElem_toArray, List.getElem_cons_zero, List.getElem_cons_succ, List.setIfInBounds_toArray, List.set_cons_zero, List.set_cons_succ]
      refine TillZ.take (i := 5) (v := .map (some (w.heap.size + 1))) rfl rfl rfl (by kernel_rfl) (by kernel_rfl) (by kernel_rfl) (by kernel_rfl) hS0 (fun u hu => by go_simp) ?_
      simp only [Act.put, List.getElem_toArray, List.getElem_cons_zero, List.getElem_cons_succ, List.setIfInBounds_toArray, List.set_cons_zero, List.set_cons_succ]
      refine TillZ.call (i := 4) (f := 64) (args := #[.slice a1 n1 a3]) (by kernel_rfl) rfl rfl rfl (by go_simp) ?_
      refine Calls.mono (clone_any a1 n1 a3 ts _ (HR.out.below HB.out.drew).t (by omega)) ?_
      rintro e w6 ⟨v, rfl, ho, hb⟩
      obtain ⟨va, vc, rfl⟩ := own_shape ho
      have hS1 := hS0.below hb
      have HB6 := Lib.hid (HB.out.drew.trans (hb.mono HB.out.size))
      have HM6 := Lib.hid (map_below (World.ownsMap.drew HM.out) hb)
      have hlow : ∀ q, (Value.slice va n1 vc).ownBlock = some q → w.heap.size + 1 < q := fun q hq => Nat.lt_of_lt_of_le (World.ownsMap.lt HM.out) (ho.lt q hq).1
      have hlt2 : ∀ q, (Value.slice va n1 vc).ownBlock = some q → q < w6.heap.size := fun q hq => (ho.lt q hq).2
      have HO6 := Lib.hid (own_mono ho HB.out.size)
      refine ⟨_, rfl, hS1, ?_⟩
      clear hb hS0 ho
      simp only [Act.put, List.getElem_toArray, List.getElem_cons_zero, List.getElem_cons_succ, List.setIfInBounds_toArray, List.set_cons_zero, List.set_cons_succ]
      refine TillZ.one (i := 6) (by kernel_rfl) ?_
      refine TillZ.opz (i := 6) (v := .agg #[.int .i64 c0, .int .i64 c1, .int .i64 c2, .int .i64 c3, .slice va n1 vc, .map (some (w.heap.size + 1))]) (w' := w6) rfl rfl rfl (by go_simp) hS1 ?_
      simp only [Act.put, List.getElem_toArray, List.getElem_cons_zero, List.getElem_cons_succ, List.setIfInBounds_toArray, List.set_cons_zero, List.set_cons_succ]
      refine TillZ.one (i := 7) (by kernel_rfl) ?_
      refine TillZ.opz (i := 7) (v := .pointer (some ⟨w6.heap.size, 0, none⟩)) (w' := w6.alloc (.cells #[.int .i64 c0, .int .i64 c1, .int .i64 c2, .int .i64 c3, .slice va n1 vc, .map (some (w.heap.size + 1))] 103)) rfl rfl rfl (by go_simp) (hS1.alloc _) ?_
      simp only [Act.put, List.getElem_toArray, List.getElem_cons_zero, List.getElem_cons_succ, List.setIfInBounds_toArray, List.set_cons_zero, List.set_cons_succ]
      refine TillZ.hand (v := .pointer (some ⟨w6.heap.size, 0, none⟩)) (by kernel_rfl) rfl rfl (by go_simp) ?_
      simp only [Act.put, List.getElem_toArray, List.getElem_cons_zero, List.getElem_cons_succ, List.setIfInBounds_toArray, List.set_cons_zero, List.set_cons_succ]
      refine TillZ.any_done (by kernel_rfl) ?_ _
      have hDr : Dr (w6.alloc (.cells #[.int .i64 c0, .int .i64 c1, .int .i64 c2, .int .i64 c3, .slice va n1 vc, .map (some (w.heap.size + 1))] 103)) w.heap.size w6.heap.size (w.heap.size + 1) (.slice va n1 vc) ⟨c0, c1, c2, c3, ts, is⟩ :=
        ⟨BoxC.made _ _ _, by dsimp only; rw [hl1]; exact World.ownsRow.alloc HO6.out _, fun q hq => ⟨by have := hlt2 q hq; omega, by have := hlow q hq; omega⟩, HB6.out.size, by omega, by have := World.ownsMap.lt HM6.out; omega, by
          have := HM6.out
          rw [List.take_of_length_le (by omega)] at this
          dsimp only
          rw [hl2]
          exact World.ownsMap.alloc this _, HRI.out⟩
      have HDR := Lib.hid hDr
      have HB7 := Lib.hid (HB6.out.alloc HB6.out.size (.cells #[.int .i64 c0, .int .i64 c1, .int .i64 c2, .int .i64 c3, .slice va n1 vc, .map (some (w.heap.size + 1))] 103))
      clear hDr hlow hlt2
      go_wp2_with fail
      go_ret
      exact ⟨_, _, _, rfl, HDR.out, HB7.out⟩
end Go.Proofs.YtnoefpkhbllmiaaGreat
