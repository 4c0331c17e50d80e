/- Texts put together: what the law uses of them. -/
import Derived.Maps.OwnSet
import Derived.Lib.SliceRun
import Derived.Shelf.SlIter.Nil
import Derived.Shelf.SortM.Plain
import Derived.Shelf.SortM.SortNone
import Derived.Ground.GgzProg
import Derived.Ground.SlgmProg
import Derived.Test.YtidcpdfhnhfelaaGreatDoorProg
import Derived.Test.YtidcpdfhnhfelaaGreatDoorQRpl16
import Derived.Test.YtidcpdfhnhfelaaGreatDoorQRpl19
import Derived.Test.YtidcpdfhnhfelaaGreatDoorQRpl23
import Derived.Test.YtidcpdfhnhfelaaGreatDoorQRpl00
/- A draft: a book that deeds are done to, its items in a map. -/
namespace Go.Proofs.YtidcpdfhnhfelaaGreatDoor
open Go.RowKit Go.PlainAid G IRow
open Go.Maps (Keyed string_keyed)
open Go.WideMaps (keyOf_string_mk)
set_option linter.unusedVariables false
theorem nilTerm (w : World) (a : Option Addr) (n c n' c' : Nat) : (binOp .eql 29 (.slice a n c) (.slice none n' c')).run Tryz.prog w = .ok (.bool a.isNone) w := Lib.run_eql_slice_nil w _ _ a n c n' c' Tryz.underlying29
theorem clone_any (a : Option Addr) (n cap : Nat) (ts : List Tm) (w : World) (h : TmR w a n cap ts) (hn : n ≤ 1048576) :
    Calls Tryz.prog 141 #[.slice a n cap] w fun e w' => ∃ v, e = .returned v ∧ w'.ownsRow w.heap.size 106 tmE.k v n (tmE.flat ts) ∧ Below w.heap.size w w' := by
  obtain ⟨i1, hi1, hz1, hs1, hy1⟩ := info_parts infoTerm
  have hnil := nilTerm
  cases a with
  | none =>
    have hc := h.nil rfl
    have hm0 : n = 0 := by have := h.le; omega
    subst hc hm0
    have hq : ts = [] := List.eq_nil_of_length_eq_zero h.len
    subst hq
    go_enter Tryz.func141, Tryz.ntmps141
    go_wp2_with fail
    go_ret
    exact ⟨_, rfl, World.ownsRow_nil _ _ _ _, Below.refl _ _⟩
  | some ad =>
    have HR : Hid (TmR (w.alloc (.cells #[] 106)) (some ad) n cap ts) := Lib.hid (SR.below h ((Below.refl _ _).alloc (Nat.le_refl _) _))
    clear h
    have HO := Lib.hid (own_made0 tmE w 106 (Nat.le_refl _))
    have HB := Lib.hid ((Below.refl w.heap.size w).alloc (Nat.le_refl _) (.cells #[] 106))
    go_enter Tryz.func141, Tryz.ntmps141
    go_wp2_with (at_builtin; refine append_wl tmE tmD rfl _ _ 29 rfl 106 i1 _ 24 Tryz.underlying29 hi1 hz1 hs1 hy1 rfl (by decide) (by decide) w.heap.size _ 0 [] rfl HO.out _ n cap ts rfl HR.out HB.out.size (by omega) (by omega) ?_; intro v' w' ho hg; have HO1 := Lib.hid ho; have HB1 := Lib.hid (HB.out.grown hg HB.out.size (fun q hq => (HO.out.lt q hq).1)); clear ho hg)
    go_ret
    exact ⟨_, rfl, by have := HO1.out; rwa [Nat.zero_add, List.nil_append] at this, HB1.out⟩
/-- A draft that lies in block B, its items in the map M, its terms in a row of its own (v). -/
structure Dr (w : World) (base B M : Nat) (v : Value) (b : Bk) : Prop where
  box : BoxC w B [.int .i64 b.c0, .int .i64 b.c1, .int .i64 b.c2, .int .i64 b.c3, v, .map (some M)]
  row : w.ownsRow base 106 tmE.k v b.ts.length (tmE.flat b.ts)
  far : ∀ q, v.ownBlock = some q → q ≠ B ∧ q ≠ M
  hB : base ≤ B
  hM : base ≤ M
  ne : M ≠ B
  map : w.ownsMap Tryz.prog 9 imR M b.is.length (mapI b.is)
  rise : RiseI b.is
theorem keyS : Keyed Tryz.prog 9 := string_keyed Tryz.underlying9
theorem imKey_of {s : ByteArray} (hs : s.size ≤ maxLen) : keyOf Tryz.prog 9 (.string s) = some (imKey s) := keyOf_string_mk Tryz.underlying9 hs
theorem zeroItem (w : World) : (zeroValue 108).run Tryz.prog w = .ok (.agg #[.string ⟨#[]⟩, .int .i64 0, .string ⟨#[]⟩]) w := by kernel_rfl
theorem map_below {H : Type} {P : Program} {k : TypeId} {R : Value → Option (DataW H × List MemPlace)} {w w' : World} {b n : Nat} {D : DataW H} (h : w.ownsMap P k R b n D) (hb : Below w.heap.size w w') : w'.ownsMap P k R b n D := by
  obtain ⟨es, clock, h1, F, hs, hD⟩ := h
  have hlt : b < w.heap.size := by
    rcases Nat.lt_or_ge b w.heap.size with h2 | h2
    · exact h2
    · rw [Array.getElem?_eq_none h2] at h1; cases h1
  exact ⟨es, clock, (hb.block b hlt).trans h1, F, hs, hD⟩
theorem map_tight {H : Type} {P : Program} {k : TypeId} {R : Value → Option (DataW H × List MemPlace)} {w : World} {b n : Nat} {D : DataW H} (h : w.ownsMap P k R b n D) : w.ownsMap P k R b (Maps.size D) D := by
  obtain ⟨es, clock, h1, F, hs, rfl⟩ := h
  exact ⟨es, clock, h1, F, by simp [Maps.size, Go.length_sorted], rfl⟩
theorem Dr.below {w w' : World} {base B M : Nat} {v : Value} {b : Bk} (h : Dr w base B M v b) (hb : Below w.heap.size w w') : Dr w' base B M v b :=
  ⟨h.box.below hb, own_below h.row hb, h.far, h.hB, h.hM, h.ne, map_below h.map hb, h.rise⟩
theorem gen_last (x : Im) : ∀ {l : List Im}, RiseI (l ++ [x]) → genI [x] x.nm l = l ++ [x]
  | [], _ => rfl
  | y :: r, h => by
    obtain ⟨h0, hr⟩ := List.pairwise_cons.1 (show RiseI (y :: (r ++ [x])) from h)
    unfold genI
    rw [if_pos (h0 x (by simp)), gen_last x hr]
    rfl
set_option maxRecDepth 100000 in
set_option maxHeartbeats 3200000 in
theorem draftOf_any (b : Bk) (a1 a2 : Option Addr) (n1 n2 a3 a4 : Nat) (w : World) (h : BkR w a1 n1 a3 a2 n2 a4 b.ts b.is) (hn1 : n1 ≤ 5) (hn2 : n2 ≤ 8) (hr : RiseI b.is) (hs2 : ∀ t, t < n2 → (b.is.getD t imD).nm.size ≤ maxLen) :
    Calls Tryz.prog 118 #[.agg #[.int .i64 b.c0, .int .i64 b.c1, .int .i64 b.c2, .int .i64 b.c3, .slice a1 n1 a3, .slice a2 n2 a4]] w fun e w' => ∃ B M v, e = .returned (.pointer (some ⟨B, 0, none⟩)) ∧ Dr w' w.heap.size B M v b ∧ Below w.heap.size w w' := by
  obtain ⟨c0, c1, c2, c3, ts, is⟩ := b
  dsimp only at h hr hs2 ⊢
  have hl1 : ts.length = n1 := h.t.len
  have hl2 : is.length = n2 := h.i.len
  have HS2 := Lib.hid hs2
  have HR := Lib.hid h
  have HRI := Lib.hid hr
  clear hs2 h hr
  have hmm := @run_makeMap Tryz.prog
  go_enter Tryz.func118, Tryz.ntmps118
  go_wp2_with fail
  have HM0 : Hid (((w.alloc (.cells #[.int .i64 c0, .int .i64 c1, .int .i64 c2, .int .i64 c3, .slice a1 n1 a3, .slice a2 n2 a4] 32)).alloc (.map #[] 0)).ownsMap Tryz.prog 9 imR (w.heap.size + 1) 0 (mapI (is.take 0))) := Lib.hid (by have := World.ownsMap_made (w.alloc (.cells #[.int .i64 c0, .int .i64 c1, .int .i64 c2, .int .i64 c3, .slice a1 n1 a3, .slice a2 n2 a4] 32)) Tryz.prog 9 imR; rwa [World.size_alloc] at this)
  have HB0 : Hid (Below w.heap.size w ((w.alloc (.cells #[.int .i64 c0, .int .i64 c1, .int .i64 c2, .int .i64 c3, .slice a1 n1 a3, .slice a2 n2 a4] 32)).alloc (.map #[] 0))) := Lib.hid (((Below.refl _ _).alloc (Nat.le_refl _) _).alloc (by simp) _)
  have HA0 : Hid (BoxC ((w.alloc (.cells #[.int .i64 c0, .int .i64 c1, .int .i64 c2, .int .i64 c3, .slice a1 n1 a3, .slice a2 n2 a4] 32)).alloc (.map #[] 0)) w.heap.size [.int .i64 c0, .int .i64 c1, .int .i64 c2, .int .i64 c3, .slice a1 n1 a3, .slice a2 n2 a4]) := Lib.hid ((BoxC.made _ _ _).alloc _)
  go_loopw [10] (fun i wr => ∃ k : Nat, k ≤ n2 ∧ i = .int .i64 k ∧ Hid (wr.ownsMap Tryz.prog 9 imR (w.heap.size + 1) k (mapI (is.take k))) ∧ Hid (Below w.heap.size w wr) ∧ Hid (BoxC wr w.heap.size [.int .i64 c0, .int .i64 c1, .int .i64 c2, .int .i64 c3, .slice a1 n1 a3, .slice a2 n2 a4])) (fun i _ => n2 - (intOf i).toNat)
  case atStart => exact ⟨0, Nat.zero_le _, rfl, HM0, HB0, HA0⟩
  case round =>
    obtain ⟨k, hk, rfl, HM, HB, HA⟩ := hrel
    clear HM0 HB0 HA0
    by_cases hlt : k < n2
    · obtain ⟨g, o, rfl, hg, t0, t1, t2⟩ := ImR.at (SR.below HR.out.i HB.out) hlt
      have hin : 0 ≤ (k : Int) ∧ (k : Int) < (n2 : Int) := by omega
      have hsz := HS2.out k hlt
      have HN : Hid (mapI (is.take (k + 1)) = (mapI (is.take k)).put (imKey (is.getD k imD).nm) (imDat (is.getD k imD))) := Lib.hid (by
        have e1 : is.take (k + 1) = is.take k ++ [is.getD k imD] := by
          rw [show is.getD k imD = is[k]'(by omega) by simp [List.getD, List.getElem?_eq_getElem (show k < is.length by omega)]]
          exact (List.take_append_getElem (by omega)).symm
        have e2 : RiseI (is.take (k + 1)) := List.Pairwise.sublist (List.take_sublist _ _) HRI.out
        rw [e1] at e2
        rw [e1, ← gen_last _ e2]
        exact mapI_put (List.Pairwise.sublist (List.take_sublist _ _) HRI.out))
      have HIM : Hid (is.getD k imD = ⟨(is.getD k imD).nm, (is.getD k imD).tm, (is.getD k imD).bd⟩) := Lib.hid rfl
      generalize is.getD k imD = im at *
      obtain ⟨nm, tm, bd⟩ := im
      dsimp only at t0 t1 t2 hsz HN
      clear HIM
      have hown := World.ownsMap.alloc HM.out (.cells #[.string nm, .int .i64 tm, .string bd] 108)
      go_wp2_with (at_mapUpdate; refine wpList_mapUpdate_own _ rfl _ _ _ 200 rfl 9 108 keyS Tryz.underlying200 imR (w.heap.size + 1) k _ rfl hown (by unfold maxLen; omega) _ _ (imKey nm) rfl rfl (imKey_of hsz) (imDat ⟨nm, tm, bd⟩) [] rfl ?_; intro w5 hown5 hg5)
      have HB5 : Hid (Below w.heap.size w w5) := Lib.hid ((HB.out.alloc HB.out.size _).grown hg5 (HB.out.alloc HB.out.size _).size (fun q hq => by simp at hq; omega))
      have HA5 : Hid (BoxC w5 w.heap.size [.int .i64 c0, .int .i64 c1, .int .i64 c2, .int .i64 c3, .slice a1 n1 a3, .slice (some ⟨g, o, none⟩) n2 a4]) := Lib.hid ((HA.out.alloc _).grown hg5 (by simp))
      rw [← HN.out] at hown5
      have HM5 := Lib.hid hown5
      clear hown5 hg5 hown t0 t1 t2
      go_roundw
      case rel => exact ⟨k + 1, by omega, by go_num, HM5, HB5, HA5⟩
      case measure => simp [intOf]; omega
    · obtain rfl : n2 = k := by omega
      have x0 := HA.out.cell 0 _ rfl
      have x1 := HA.out.cell 1 _ rfl
      have x2 := HA.out.cell 2 _ rfl
      have x3 := HA.out.cell 3 _ rfl
      have x4 := HA.out.cell 4 _ rfl
      go_wp2_with fail
      have hmx : Tryz.prog.follows .mixedOrders = true := by kernel_rfl
      refine TillZ.region (t := 8) hmx (fun u => BoxC u w.heap.size [.int .i64 c0, .int .i64 c1, .int .i64 c2, .int .i64 c3, .slice a1 n1 a3, .slice a2 n2 a4]) ?_
      have hS0 := HA.out.drew
      clear x0 x1 x2 x3 x4
      refine TillZ.take (i := 0) (v := .pointer (some ⟨w.heap.size, 0, none⟩)) rfl rfl rfl (by kernel_rfl) (by kernel_rfl) (by kernel_rfl) (by kernel_rfl) hS0 (fun u hu => by go_simp) ?_
      simp only [Act.put, List.getElem_toArray, List.getElem_cons_zero, List.getElem_cons_succ, List.setIfInBounds_toArray, List.set_cons_zero, List.set_cons_succ]
      refine TillZ.take (i := 1) (v := .agg #[.int .i64 c0, .int .i64 c1, .int .i64 c2, .int .i64 c3]) rfl rfl rfl (by kernel_rfl) (by kernel_rfl) (by kernel_rfl) (by kernel_rfl) hS0 (fun u hu => by have z0 := hu.cell 0 _ rfl; have z1 := hu.cell 1 _ rfl; have z2 := hu.cell 2 _ rfl; have z3 := hu.cell 3 _ rfl; go_simp) ?_
      simp only [Act.put, List.getElem_toArray, List.getElem_cons_zero, List.getElem_cons_succ, List.setIfInBounds_toArray, List.set_cons_zero, List.set_cons_succ]
      refine TillZ.take (i := 2) (v := .pointer (some ⟨w.heap.size, 4, none⟩)) rfl rfl rfl (by kernel_rfl) (by kernel_rfl) (by kernel_rfl) (by kernel_rfl) hS0 (fun u hu => by go_simp) ?_
      simp only [Act.put, List.getElem_toArray, List.getElem_cons_zero, List.getElem_cons_succ, List.setIfInBounds_toArray, List.set_cons_zero, List.set_cons_succ]
      refine TillZ.take (i := 3) (v := .slice a1 n1 a3) rfl rfl rfl (by kernel_rfl) (by kernel_rfl) (by kernel_rfl) (by kernel_rfl) hS0 (fun u hu => by have z4 := hu.cell 4 _ rfl; go_simp) ?_
      simp only [Act.put, List.getElem_toArray, List.getElem_cons_zero, List.getElem_cons_succ, List.setIfInBounds_toArray, List.set_cons_zero, List.set_cons_succ]
      refine TillZ.take (i := 5) (v := .map (some (w.heap.size + 1))) rfl rfl rfl (by kernel_rfl) (by kernel_rfl) (by kernel_rfl) (by kernel_rfl) hS0 (fun u hu => by go_simp) ?_
      simp only [Act.put, List.getElem_toArray, List.getElem_cons_zero, List.getElem_cons_succ, List.setIfInBounds_toArray, List.set_cons_zero, List.set_cons_succ]
      refine TillZ.call (i := 4) (f := 141) (args := #[.slice a1 n1 a3]) (by kernel_rfl) rfl rfl rfl (by go_simp) ?_
      refine Calls.mono (clone_any a1 n1 a3 ts _ (HR.out.below HB.out.drew).t (by omega)) ?_
      rintro e w6 ⟨v, rfl, ho, hb⟩
      obtain ⟨va, vc, rfl⟩ := own_shape ho
      have hS1 := hS0.below hb
      have HB6 := Lib.hid (HB.out.drew.trans (hb.mono HB.out.size))
      have HM6 := Lib.hid (map_below (World.ownsMap.drew HM.out) hb)
      have hlow : ∀ q, (Value.slice va n1 vc).ownBlock = some q → w.heap.size + 1 < q := fun q hq => Nat.lt_of_lt_of_le (World.ownsMap.lt HM.out) (ho.lt q hq).1
      have hlt2 : ∀ q, (Value.slice va n1 vc).ownBlock = some q → q < w6.heap.size := fun q hq => (ho.lt q hq).2
      have HO6 := Lib.hid (own_mono ho HB.out.size)
      refine ⟨_, rfl, hS1, ?_⟩
      clear hb hS0 ho
      simp only [Act.put, List.getElem_toArray, List.getElem_cons_zero, List.getElem_cons_succ, List.setIfInBounds_toArray, List.set_cons_zero, List.set_cons_succ]
      refine TillZ.one (i := 6) (by kernel_rfl) ?_
      refine TillZ.opz (i := 6) (v := .agg #[.int .i64 c0, .int .i64 c1, .int .i64 c2, .int .i64 c3, .slice va n1 vc, .map (some (w.heap.size + 1))]) (w' := w6) rfl rfl rfl (by go_simp) hS1 ?_
      simp only [Act.put, List.getElem_toArray, List.getElem_cons_zero, List.getElem_cons_succ, List.setIfInBounds_toArray, List.set_cons_zero, List.set_cons_succ]
      refine TillZ.one (i := 7) (by kernel_rfl) ?_
      refine TillZ.opz (i := 7) (v := .pointer (some ⟨w6.heap.size, 0, none⟩)) (w' := w6.alloc (.cells #[.int .i64 c0, .int .i64 c1, .int .i64 c2, .int .i64 c3, .slice va n1 vc, .map (some (w.heap.size + 1))] 203)) rfl rfl rfl (by go_simp) (hS1.alloc _) ?_
      simp only [Act.put, List.getElem_toArray, List.getElem_cons_zero, List.getElem_cons_succ, List.setIfInBounds_toArray, List.set_cons_zero, List.set_cons_succ]
      refine TillZ.hand (v := .pointer (some ⟨w6.heap.size, 0, none⟩)) (by kernel_rfl) rfl rfl (by go_simp) ?_
      simp only [Act.put, List.getElem_toArray, List.getElem_cons_zero, List.getElem_cons_succ, List.setIfInBounds_toArray, List.set_cons_zero, List.set_cons_succ]
      refine TillZ.any_done (by kernel_rfl) ?_ _
      have hDr : Dr (w6.alloc (.cells #[.int .i64 c0, .int .i64 c1, .int .i64 c2, .int .i64 c3, .slice va n1 vc, .map (some (w.heap.size + 1))] 203)) w.heap.size w6.heap.size (w.heap.size + 1) (.slice va n1 vc) ⟨c0, c1, c2, c3, ts, is⟩ :=
        ⟨BoxC.made _ _ _, by dsimp only; rw [hl1]; exact World.ownsRow.alloc HO6.out _, fun q hq => ⟨by have := hlt2 q hq; omega, by have := hlow q hq; omega⟩, HB6.out.size, by omega, by have := World.ownsMap.lt HM6.out; omega, by
          have := HM6.out
          rw [List.take_of_length_le (by omega)] at this
          dsimp only
          rw [hl2]
          exact World.ownsMap.alloc this _, HRI.out⟩
      have HDR := Lib.hid hDr
      have HB7 := Lib.hid (HB6.out.alloc HB6.out.size (.cells #[.int .i64 c0, .int .i64 c1, .int .i64 c2, .int .i64 c3, .slice va n1 vc, .map (some (w.heap.size + 1))] 203))
      clear hDr hlow hlt2
      go_wp2_with fail
      go_ret
      exact ⟨_, _, _, rfl, HDR.out, HB7.out⟩
end Go.Proofs.YtidcpdfhnhfelaaGreatDoor

/- The contracts on a map's sorted keys, laid at this program (by the kit's own command, in plain words). -/
namespace Go.Proofs.YtidcpdfhnhfelaaGreatDoor
open Go.Shelf
def LTryz.keys144_ren : Go.Shelf.Ren := ⟨fun | 7 => 144 | 10 => 162 | n => n, fun | 23 => 200 | 26 => 9 | 3 => 108 | 28 => 209 | 0 => 0 | 27 => 208 | 33 => 26 | 4 => 4 | n => n, fun | n => n⟩
theorem LTryz.keys144 : Go.Proofs.SlLaysZ.n7 Tryz.prog LTryz.keys144_ren := {
  mixed := by kernel_rfl
  f7 := ⟨Tryz.f144.name, by decide, Tryz.func144.trans (congrArg some (by kernel_rfl))⟩
  f10 := ⟨Tryz.f162.name, by decide, Tryz.func162.trans (congrArg some (by kernel_rfl))⟩
  t0 := Tryz.underlying0
  a0 := Tryz.isAgg0
  z0 := Tryz.sizeOf0
  v0 := Tryz.zeroValue0
  t4 := Tryz.underlying4
  a4 := Tryz.isAgg4
  z4 := Tryz.sizeOf4
  v4 := Tryz.zeroValue4
  t23 := Tryz.underlying200
  a23 := Tryz.isAgg200
  z23 := Tryz.sizeOf200
  v23 := Tryz.zeroValue200
  t26 := Tryz.underlying9
  a26 := Tryz.isAgg9
  z26 := Tryz.sizeOf9
  v26 := Tryz.zeroValue9
  t27 := Tryz.underlying208
  a27 := Tryz.isAgg208
  z27 := Tryz.sizeOf208
  v27 := Tryz.zeroValue208
  t28 := Tryz.underlying209
  a28 := Tryz.isAgg209
  z28 := Tryz.sizeOf209
  v28 := Tryz.zeroValue209
  t33 := Tryz.underlying26
  a33 := Tryz.isAgg26
  z33 := Tryz.sizeOf26
  v33 := Tryz.zeroValue26 }
def LTryz.sorted143_ren : Go.Shelf.Ren := ⟨fun | 6 => 143 | 8 => 160 | 9 => 161 | 11 => 167 | 13 => 169 | 12 => 168 | 23 => 179 | 24 => 180 | 14 => 170 | 15 => 171 | 16 => 172 | 17 => 173 | 18 => 174 | 19 => 175 | 20 => 176 | 21 => 177 | 22 => 178 | 25 => 181 | 26 => 182 | 27 => 183 | 28 => 184 | 29 => 185 | 30 => 186 | 31 => 187 | n => n, fun | 26 => 9 | 28 => 209 | 24 => 176 | 0 => 0 | 3 => 3 | 37 => 148 | 48 => 150 | 50 => 147 | 4 => 4 | 40 => 242 | 39 => 241 | 45 => 247 | 5 => 5 | 9 => 9 | 51 => 251 | 55 => 255 | 57 => 257 | 58 => 258 | 33 => 26 | n => n, fun | n => n⟩
theorem LTryz.sorted143 : Go.Proofs.SlLaysZ.n6 Tryz.prog LTryz.sorted143_ren := {
  mixed := by kernel_rfl
  f6 := ⟨Tryz.f143.name, by decide, Tryz.func143.trans (congrArg some (by kernel_rfl))⟩
  f8 := ⟨Tryz.f160.name, by decide, Tryz.func160.trans (congrArg some (by kernel_rfl))⟩
  f11 := ⟨Tryz.f167.name, by decide, Tryz.func167.trans (congrArg some (by kernel_rfl))⟩
  t0 := Tryz.underlying0
  a0 := Tryz.isAgg0
  z0 := Tryz.sizeOf0
  v0 := Tryz.zeroValue0
  t24 := Tryz.underlying176
  a24 := Tryz.isAgg176
  z24 := Tryz.sizeOf176
  v24 := Tryz.zeroValue176
  t26 := Tryz.underlying9
  a26 := Tryz.isAgg9
  z26 := Tryz.sizeOf9
  v26 := Tryz.zeroValue9
  t28 := Tryz.underlying209
  a28 := Tryz.isAgg209
  z28 := Tryz.sizeOf209
  v28 := Tryz.zeroValue209
  i26 := by kernel_rfl }
def LTryz.sort161_ren : Go.Shelf.Ren := ⟨fun | 6 => 161 | 8 => 169 | 9 => 168 | 19 => 179 | 20 => 180 | 21 => 170 | 22 => 171 | 23 => 172 | 24 => 173 | 25 => 174 | 26 => 175 | 27 => 176 | 28 => 177 | 29 => 178 | 36 => 181 | 31 => 182 | 32 => 183 | 37 => 184 | 38 => 185 | 39 => 186 | 41 => 187 | n => n, fun | 27 => 176 | 29 => 9 | 3 => 3 | 32 => 148 | 26 => 176 | 0 => 0 | 44 => 150 | 46 => 147 | 4 => 4 | 36 => 242 | 35 => 241 | 41 => 247 | 5 => 5 | 9 => 9 | 53 => 251 | 57 => 255 | 63 => 257 | 64 => 258 | n => n, fun | n => n⟩
theorem LTryz.sort161 : Go.Proofs.SlLaysM.n6 Tryz.prog LTryz.sort161_ren := {
  mixed := by kernel_rfl
  f6 := ⟨Tryz.f161.name, by decide, Tryz.func161.trans (congrArg some (by kernel_rfl))⟩
  f8 := Tryz.func169.trans (congrArg some (by kernel_rfl))
  f9 := ⟨Tryz.f168.name, by decide, Tryz.func168.trans (congrArg some (by kernel_rfl))⟩
  f19 := Tryz.func179.trans (congrArg some (by kernel_rfl))
  f20 := Tryz.func180.trans (congrArg some (by kernel_rfl))
  f21 := ⟨Tryz.f170.name, by decide, Tryz.func170.trans (congrArg some (by kernel_rfl))⟩
  f22 := ⟨Tryz.f171.name, by decide, Tryz.func171.trans (congrArg some (by kernel_rfl))⟩
  f23 := ⟨Tryz.f172.name, by decide, Tryz.func172.trans (congrArg some (by kernel_rfl))⟩
  f24 := ⟨Tryz.f173.name, by decide, Tryz.func173.trans (congrArg some (by kernel_rfl))⟩
  f25 := ⟨Tryz.f174.name, by decide, Tryz.func174.trans (congrArg some (by kernel_rfl))⟩
  f26 := ⟨Tryz.f175.name, by decide, Tryz.func175.trans (congrArg some (by kernel_rfl))⟩
  f27 := ⟨Tryz.f176.name, by decide, Tryz.func176.trans (congrArg some (by kernel_rfl))⟩
  f28 := ⟨Tryz.f177.name, by decide, Tryz.func177.trans (congrArg some (by kernel_rfl))⟩
  f29 := ⟨Tryz.f178.name, by decide, Tryz.func178.trans (congrArg some (by kernel_rfl))⟩
  f31 := Tryz.func182.trans (congrArg some (by kernel_rfl))
  f32 := Tryz.func183.trans (congrArg some (by kernel_rfl))
  f36 := ⟨Tryz.f181.name, by decide, Tryz.func181.trans (congrArg some (by kernel_rfl))⟩
  f37 := ⟨Tryz.f184.name, by decide, Tryz.func184.trans (congrArg some (by kernel_rfl))⟩
  f38 := ⟨Tryz.f185.name, by decide, Tryz.func185.trans (congrArg some (by kernel_rfl))⟩
  f39 := ⟨Tryz.f186.name, by decide, Tryz.func186.trans (congrArg some (by kernel_rfl))⟩
  f41 := ⟨Tryz.f187.name, by decide, Tryz.func187.trans (congrArg some (by kernel_rfl))⟩
  t0 := Tryz.underlying0
  a0 := Tryz.isAgg0
  z0 := Tryz.sizeOf0
  v0 := Tryz.zeroValue0
  t3 := Tryz.underlying3
  a3 := Tryz.isAgg3
  z3 := Tryz.sizeOf3
  v3 := Tryz.zeroValue3
  t4 := Tryz.underlying4
  a4 := Tryz.isAgg4
  z4 := Tryz.sizeOf4
  v4 := Tryz.zeroValue4
  t5 := Tryz.underlying5
  a5 := Tryz.isAgg5
  z5 := Tryz.sizeOf5
  v5 := Tryz.zeroValue5
  t9 := Tryz.underlying9
  a9 := Tryz.isAgg9
  z9 := Tryz.sizeOf9
  v9 := Tryz.zeroValue9
  t26 := Tryz.underlying176
  a26 := Tryz.isAgg176
  z26 := Tryz.sizeOf176
  v26 := Tryz.zeroValue176
  t27 := Tryz.underlying176
  a27 := Tryz.isAgg176
  z27 := Tryz.sizeOf176
  v27 := Tryz.zeroValue176
  t29 := Tryz.underlying9
  a29 := Tryz.isAgg9
  z29 := Tryz.sizeOf9
  v29 := Tryz.zeroValue9
  t32 := Tryz.underlying148
  a32 := Tryz.isAgg148
  z32 := Tryz.sizeOf148
  v32 := Tryz.zeroValue148
  t35 := Tryz.underlying241
  a35 := Tryz.isAgg241
  z35 := Tryz.sizeOf241
  v35 := Tryz.zeroValue241
  t36 := Tryz.underlying242
  a36 := Tryz.isAgg242
  z36 := Tryz.sizeOf242
  v36 := Tryz.zeroValue242
  t41 := Tryz.underlying247
  a41 := Tryz.isAgg247
  z41 := Tryz.sizeOf247
  v41 := Tryz.zeroValue247
  t44 := Tryz.underlying150
  a44 := Tryz.isAgg150
  z44 := Tryz.sizeOf150
  v44 := Tryz.zeroValue150
  t46 := Tryz.underlying147
  a46 := Tryz.isAgg147
  z46 := Tryz.sizeOf147
  v46 := Tryz.zeroValue147
  t53 := Tryz.underlying251
  a53 := Tryz.isAgg251
  z53 := Tryz.sizeOf251
  v53 := Tryz.zeroValue251
  t57 := Tryz.underlying255
  a57 := Tryz.isAgg255
  z57 := Tryz.sizeOf255
  v57 := Tryz.zeroValue255
  t63 := Tryz.underlying257
  a63 := Tryz.isAgg257
  z63 := Tryz.sizeOf257
  v63 := Tryz.zeroValue257
  t64 := Tryz.underlying258
  a64 := Tryz.isAgg258
  z64 := Tryz.sizeOf258
  v64 := Tryz.zeroValue258 }
end Go.Proofs.YtidcpdfhnhfelaaGreatDoor

