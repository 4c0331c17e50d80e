/- Texts put together: what the law uses of them. -/
import Derived.Deep.Cut
import Derived.Test.YtidcpdfhnhfelaaGreatDoorQRpl17
import Derived.Test.YtidcpdfhnhfelaaGreatDoorQRpl24
import Derived.Test.YtidcpdfhnhfelaaGreatDoorQRpl00
/- What each kind of deed does to a draft. -/
namespace Go.Proofs.YtidcpdfhnhfelaaGreatDoor
open Go.RowKit Go.PlainAid G IRow
set_option linter.unusedVariables false
theorem Dr.conf {w : World} {base B M : Nat} {v : Value} {b : Bk} (h : Dr w base B M v b) (q1 q2 q3 q4 : Int) :
    Dr ((((w.setCell ⟨B, 0, none⟩ (.int .i64 q1)).setCell ⟨B, 1, none⟩ (.int .i64 q2)).setCell ⟨B, 2, none⟩ (.int .i64 q3)).setCell ⟨B, 3, none⟩ (.int .i64 q4)) base B M v ⟨q1, q2, q3, q4, b.ts, b.is⟩ where
  box := (((h.box.set (j := 0) (by simp) (.int .i64 q1)).set (j := 1) (by simp) (.int .i64 q2)).set (j := 2) (by simp) (.int .i64 q3)).set (j := 3) (by simp) (.int .i64 q4)
  row := own_other (own_other (own_other (own_other h.row (b := B) (fun q hq => (h.far q hq).1) ⟨B, 0, none⟩ (.int .i64 q1) rfl) (b := B) (fun q hq => (h.far q hq).1) ⟨B, 1, none⟩ (.int .i64 q2) rfl) (b := B) (fun q hq => (h.far q hq).1) ⟨B, 2, none⟩ (.int .i64 q3) rfl) (b := B) (fun q hq => (h.far q hq).1) ⟨B, 3, none⟩ (.int .i64 q4) rfl
  far := h.far
  hB := h.hB
  hM := h.hM
  ne := h.ne
  map := (((h.map.setCell (a := ⟨B, 0, none⟩) h.ne _).setCell (a := ⟨B, 1, none⟩) h.ne _).setCell (a := ⟨B, 2, none⟩) h.ne _).setCell (a := ⟨B, 3, none⟩) h.ne _
  rise := h.rise
theorem below_conf {w0 w : World} {base B : Nat} (hb : Below base w0 w) (hB : base ≤ B) (q1 q2 q3 q4 : Int) :
    Below base w0 ((((w.setCell ⟨B, 0, none⟩ (.int .i64 q1)).setCell ⟨B, 1, none⟩ (.int .i64 q2)).setCell ⟨B, 2, none⟩ (.int .i64 q3)).setCell ⟨B, 3, none⟩ (.int .i64 q4)) :=
  (((hb.setCell (p := ⟨B, 0, none⟩) hB (.int .i64 q1)).setCell (p := ⟨B, 1, none⟩) hB (.int .i64 q2)).setCell (p := ⟨B, 2, none⟩) hB (.int .i64 q3)).setCell (p := ⟨B, 3, none⟩) hB (.int .i64 q4)
/-- Other terms, in another row of its own. -/
theorem Dr.terms {w : World} {base B M : Nat} {v v' : Value} {b : Bk} {ts' : List Tm} (h : Dr w base B M v b) (hr : w.ownsRow base 106 tmE.k v' ts'.length (tmE.flat ts')) (hf : ∀ q, v'.ownBlock = some q → q ≠ B ∧ q ≠ M) :
    Dr (w.setCell ⟨B, 4, none⟩ v') base B M v' ⟨b.c0, b.c1, b.c2, b.c3, ts', b.is⟩ where
  box := h.box.set (j := 4) (by simp) v'
  row := own_other hr (b := B) (fun q hq => (hf q hq).1) ⟨B, 4, none⟩ v' rfl
  far := hf
  hB := h.hB
  hM := h.hM
  ne := h.ne
  map := h.map.setCell (a := ⟨B, 4, none⟩) h.ne _
  rise := h.rise

set_option maxRecDepth 100000 in
theorem confDo_any (q1 q2 q3 q4 : Int) {w : World} {base B M : Nat} {v : Value} {b : Bk} (h : Dr w base B M v b) (hbs : base ≤ w.heap.size) :
    Calls Tryz.prog 210 #[.agg #[.int .i64 q1, .int .i64 q2, .int .i64 q3, .int .i64 q4], .pointer (some ⟨B, 0, none⟩)] w fun e w' => e = .returned (.int .i64 0) ∧ Dr w' base B M v ⟨q1, q2, q3, q4, b.ts, b.is⟩ ∧ Below base w w' := by
  have HLT : Hid (∀ q, v.ownBlock = some q → q < w.heap.size) := Lib.hid (fun q hq => (h.row.lt q hq).2)
  have HB1 : Hid (Dr (w.alloc (.cells #[.int .i64 q1, .int .i64 q2, .int .i64 q3, .int .i64 q4] 206)) base B M v b) := Lib.hid (h.below ((Below.refl _ _).alloc (Nat.le_refl _) _))
  have HBB : Hid (Below base w (w.alloc (.cells #[.int .i64 q1, .int .i64 q2, .int .i64 q3, .int .i64 q4] 206))) := Lib.hid ((Below.refl _ _).alloc hbs _)
  have HBS := Lib.hid hbs
  clear h
  have x0 := HB1.out.box.cell 0 _ rfl
  have f0 := HB1.out.box.free 0
  have x1 := HB1.out.box.cell 1 _ rfl
  have f1 := HB1.out.box.free 1
  have x2 := HB1.out.box.cell 2 _ rfl
  have f2 := HB1.out.box.free 2
  have x3 := HB1.out.box.cell 3 _ rfl
  have f3 := HB1.out.box.free 3
  go_enter Tryz.func210, Tryz.ntmps210
  go_wp2_with fail
  go_ret
  exact ⟨rfl, HB1.out.conf q1 q2 q3 q4, below_conf HBB.out HB1.out.hB q1 q2 q3 q4⟩
set_option maxRecDepth 100000 in
set_option maxHeartbeats 1600000 in
theorem begin_any (q1 q2 q3 q4 : Int) {w : World} {base B M : Nat} {v : Value} {b : Bk} (h : Dr w base B M v b) (hbs : base ≤ w.heap.size) :
    Calls Tryz.prog 142 #[.pointer (some ⟨B, 0, none⟩), .agg #[.int .i64 q1, .int .i64 q2, .int .i64 q3, .int .i64 q4]] w fun e w' => e = .returned (.tuple #[]) ∧ ∃ v', Dr w' base B M v' ⟨q1, q2, q3, q4, [⟨1, ⟨#[120]⟩⟩], b.is⟩ ∧ Below base w w' := by
  have HLT : Hid (∀ q, v.ownBlock = some q → q < w.heap.size) := Lib.hid (fun q hq => (h.row.lt q hq).2)
  have HB1 : Hid (Dr (w.alloc (.cells #[.int .i64 q1, .int .i64 q2, .int .i64 q3, .int .i64 q4] 206)) base B M v b) := Lib.hid (h.below ((Below.refl _ _).alloc (Nat.le_refl _) _))
  have HBB : Hid (Below base w (w.alloc (.cells #[.int .i64 q1, .int .i64 q2, .int .i64 q3, .int .i64 q4] 206))) := Lib.hid ((Below.refl _ _).alloc hbs _)
  have HBS := Lib.hid hbs
  clear h
  have x0 := HB1.out.box.cell 0 _ rfl
  have f0 := HB1.out.box.free 0
  have x1 := HB1.out.box.cell 1 _ rfl
  have f1 := HB1.out.box.free 1
  have x2 := HB1.out.box.cell 2 _ rfl
  have f2 := HB1.out.box.free 2
  have x3 := HB1.out.box.cell 3 _ rfl
  have f3 := HB1.out.box.free 3
  have x4 := HB1.out.box.cell 4 _ rfl
  have f4 := HB1.out.box.free 4
  have HC := Lib.hid (HB1.out.conf q1 q2 q3 q4)
  have HCB := Lib.hid (below_conf HBB.out HB1.out.hB q1 q2 q3 q4)
  go_enter Tryz.func142, Tryz.ntmps142
  go_upto_region 2 with fail
  clear x0 f0 x1 f1 x2 f2 x3 f3 x4 f4
  generalize (((((w.alloc (.cells #[.int .i64 q1, .int .i64 q2, .int .i64 q3, .int .i64 q4] 206)).setCell ⟨B, 0, none⟩ (.int .i64 q1)).setCell ⟨B, 1, none⟩ (.int .i64 q2)).setCell ⟨B, 2, none⟩ (.int .i64 q3)).setCell ⟨B, 3, none⟩ (.int .i64 q4)) = V at *
  have HD := Lib.hid (HC.out.below ((Below.refl _ _).alloc (Nat.le_refl _) (.cells #[.int .i64 1, .string ⟨#[120]⟩] 106)))
  have HDB := Lib.hid (HCB.out.alloc (Nat.le_trans HBS.out HCB.out.size) (.cells #[.int .i64 1, .string ⟨#[120]⟩] 106))
  have HRW : Hid ((V.alloc (.cells #[.int .i64 1, .string ⟨#[120]⟩] 106)).ownsRow V.heap.size 106 tmE.k (.slice (some ⟨V.heap.size, 0, none⟩) 1 1) 1 (tmE.flat [⟨1, ⟨#[120]⟩⟩])) := Lib.hid (World.ownsRow_lit V #[.int .i64 1, .string ⟨#[120]⟩] 1 (Nat.le_refl _) (by decide) rfl)
  have x4 := HD.out.box.cell 4 _ rfl
  have f4 := HD.out.box.free 4
  go_wp2_with fail
  refine bodyPost_end (v := .tuple #[]) (by simp [results, Tryz.results142, go_sem]) rfl ?_
  refine ⟨rfl, _, HD.out.terms (ts' := [⟨1, ⟨#[120]⟩⟩]) (own_mono HRW.out (Nat.le_trans HBS.out HCB.out.size)) (fun q hq => ?_), HDB.out.setCell (p := ⟨B, 4, none⟩) HD.out.hB _⟩
  simp [Value.ownBlock] at hq
  have h1 := HC.out.box.lt
  have h2 := World.ownsMap.lt HC.out.map
  omega
/-- What a look into the map tells: the item of that name, or the zero item. -/
def lookI (is : List Im) (nm : ByteArray) : Im := if hasI is nm = true then is.getD (atI is nm) imD else ⟨⟨#[]⟩, 0, ⟨#[]⟩⟩
theorem look_any {is : List Im} (hr : RiseI is) {u : World} {M n : Nat} (hown : u.ownsMap Tryz.prog 9 imR M n (mapI is)) {nm : ByteArray} (hq : nm.size ≤ maxLen) :
    (Instr.lookup 200 (.map (some M)) (.string nm) true).run Tryz.prog u = .ok (.tuple #[.agg #[.string (lookI is nm).nm, .int .i64 (lookI is nm).tm, .string (lookI is nm).bd], .bool (hasI is nm)]) u := by
  obtain ⟨v, ps, hrun, hv⟩ := hown.look_ok keyS Tryz.underlying200 (zeroItem u) (zd := imDat ⟨⟨#[]⟩, 0, ⟨#[]⟩⟩) (zp := []) rfl (imKey_of hq)
  rw [has_mapI nm hr] at hrun
  have hx : (mapI is).atKey (imKey nm) (imDat ⟨⟨#[]⟩, 0, ⟨#[]⟩⟩) = imDat (lookI is nm) := by
    unfold lookI
    cases hh : hasI is nm
    · rw [if_neg (by decide)]
      exact Maps.atKey_of_not_has (by rw [has_mapI nm hr, hh]) _
    · rw [if_pos rfl]
      unfold hasI at hh
      rw [Bool.and_eq_true, decide_eq_true_eq, decide_eq_true_eq] at hh
      have hm : is.getD (atI is nm) imD ∈ is := by
        rw [List.getD, List.getElem?_eq_getElem hh.1]
        exact List.getElem_mem hh.1
      have := at_mapI hr hm (imDat ⟨⟨#[]⟩, 0, ⟨#[]⟩⟩)
      rwa [hh.2] at this
  rw [hx] at hv
  have hv2 := imR_inv hv
  rw [hrun, hv2]
theorem own_apart {w w' : World} {base : Nat} {e : TypeId} {size : Nat} {v : Value} {n : Nat} {xs : List Value} {M : Nat} (h : w.ownsRow base e size v n xs) (hg : w.grownBy w' (some M)) (hne : ∀ g, v.ownBlock = some g → g ≠ M) : w'.ownsRow base e size v n xs := by
  refine h.kept hg ?_
  cases hv : v.ownBlock with
  | none => exact .inl rfl
  | some g => exact .inr (fun e => hne g hv (Option.some.inj e))
/-- Other items, in the same map. -/
theorem Dr.mapped {w w' : World} {base B M n : Nat} {v : Value} {b : Bk} {is' : List Im} (h : Dr w base B M v b) (hg : w.grownBy w' (some M)) (hm : w'.ownsMap Tryz.prog 9 imR M n (mapI is')) (hr : RiseI is') : Dr w' base B M v ⟨b.c0, b.c1, b.c2, b.c3, b.ts, is'⟩ where
  box := h.box.grown hg (fun e => h.ne (Option.some.inj e).symm)
  row := own_apart h.row hg (fun q hq => (h.far q hq).2)
  far := h.far
  hB := h.hB
  hM := h.hM
  ne := h.ne
  map := by have := map_tight hm; rwa [size_mapI] at this
  rise := hr
theorem imR_shape {v : Value} {z : DataW Unit × List MemPlace} (h : imR v = some z) : ∃ nm tm bd, v = .agg #[.string nm, .int .i64 tm, .string bd] := by
  unfold imR at h
  split at h
  · split at h
    · rename_i e
      exact ⟨_, _, _, congrArg Value.agg (Array.toList_inj.1 e)⟩
    · cases h
  · cases h
set_option maxRecDepth 100000 in
theorem delDo_no (q7 : ByteArray) {w : World} {base B M : Nat} {v : Value} {b : Bk} (h : Dr w base B M v b) (hbs : base ≤ w.heap.size) (hq : q7.size ≤ maxLen) (hh : hasI b.is q7 = false) :
    Calls Tryz.prog 238 #[.string q7, .pointer (some ⟨B, 0, none⟩)] w fun e w' => e = .returned (.int .i64 6) ∧ Below base w w' := by
  have x5 := h.box.cell 5 _ rfl
  have HB1 := Lib.hid h
  have HBB : Hid (Below base w w) := Lib.hid (Below.refl _ _)
  have HBS := Lib.hid hbs
  have HHAS := Lib.hid hh
  clear h hh
  go_enter Tryz.func238, Tryz.ntmps238
  go_wp2_with (at_lookup; refine wpList_lookup_own_ok _ rfl _ _ 200 rfl 9 108 keyS Tryz.underlying200 imR (zeroItem _) (imDat ⟨⟨#[]⟩, 0, ⟨#[]⟩⟩) [] rfl M _ (mapI b.is) rfl HB1.out.map _ (imKey q7) rfl (imKey_of hq) ?_; intro vv ps hv; obtain ⟨vn, vt, vb, rfl⟩ := imR_shape hv; rw [has_mapI _ HB1.out.rise, HHAS.out]; clear hv; have HB2 := Lib.hid (HB1.out.below ((Below.refl _ _).alloc (Nat.le_refl _) (.cells #[.string vn, .int .i64 vt, .string vb] 108))); have HBB2 := Lib.hid (HBB.out.alloc (Nat.le_trans HBS.out HBB.out.size) (.cells #[.string vn, .int .i64 vt, .string vb] 108)); have y5 := HB2.out.box.cell 5 _ rfl; have y4 := HB2.out.box.cell 4 _ rfl)
  go_ret
  exact ⟨rfl, HBB2.out⟩
set_option maxRecDepth 100000 in
theorem delDo_yes (q7 : ByteArray) {w : World} {base B M : Nat} {v : Value} {b : Bk} (h : Dr w base B M v b) (hbs : base ≤ w.heap.size) (hq : q7.size ≤ maxLen) (hh : hasI b.is q7 = true) :
    Calls Tryz.prog 238 #[.string q7, .pointer (some ⟨B, 0, none⟩)] w fun e w' => e = .returned (.int .i64 0) ∧ Dr w' base B M v ⟨b.c0, b.c1, b.c2, b.c3, b.ts, genI [] q7 b.is⟩ ∧ Below base w w' := by
  have x5 := h.box.cell 5 _ rfl
  have HB1 := Lib.hid h
  have HBB : Hid (Below base w w) := Lib.hid (Below.refl _ _)
  have HBS := Lib.hid hbs
  have HHAS := Lib.hid hh
  clear h hh
  go_enter Tryz.func238, Tryz.ntmps238
  go_wp2_with (first | (at_lookup; refine wpList_lookup_own_ok _ rfl _ _ 200 rfl 9 108 keyS Tryz.underlying200 imR (zeroItem _) (imDat ⟨⟨#[]⟩, 0, ⟨#[]⟩⟩) [] rfl M _ (mapI b.is) rfl HB1.out.map _ (imKey q7) rfl (imKey_of hq) ?_; intro vv ps hv; obtain ⟨vn, vt, vb, rfl⟩ := imR_shape hv; rw [has_mapI _ HB1.out.rise, HHAS.out]; clear hv; have HB2 := Lib.hid (HB1.out.below ((Below.refl _ _).alloc (Nat.le_refl _) (.cells #[.string vn, .int .i64 vt, .string vb] 108))); have HBB2 := Lib.hid (HBB.out.alloc (Nat.le_trans HBS.out HBB.out.size) (.cells #[.string vn, .int .i64 vt, .string vb] 108)); have y5 := HB2.out.box.cell 5 _ rfl; have y4 := HB2.out.box.cell 4 _ rfl) | (at_delete; refine wpList_delete_own _ rfl _ _ 200 9 rfl 108 keyS Tryz.underlying200 imR M _ (mapI b.is) rfl HB2.out.map _ (imKey q7) rfl (imKey_of hq) ?_; intro w1 hown1 hturn1; have HT := Lib.hid hturn1.grown; have HO := Lib.hid hown1; clear hown1 hturn1))
  go_ret
  exact ⟨rfl, HB2.out.mapped HT.out (by rw [mapI_del HB1.out.rise]; exact HO.out) (gen_rise (.inl rfl) HB1.out.rise), HBB2.out.grown HT.out (Nat.le_trans HBS.out HBB2.out.size) (fun q hq => by have := HB1.out.hM; simp at hq; omega)⟩
set_option maxRecDepth 100000 in
set_option maxHeartbeats 1600000 in
theorem putDo_none (q7 : ByteArray) (q8 : Int) (q9 : ByteArray) {w : World} {base B M : Nat} {v : Value} {b : Bk} (h : Dr w base B M v b) (hbs : base ≤ w.heap.size) (hq : q7.size ≤ maxLen) (ht : b.ts.length ≤ 5) (hi : b.is.length ≤ 8) (hn : (b.ts.length : Int) < q8) :
    Calls Tryz.prog 231 #[.agg #[.string q7, .int .i64 q8, .string q9], .pointer (some ⟨B, 0, none⟩)] w fun e w' => e = .returned (.int .i64 6) ∧ Below base w w' := by
  have HX : Hid (BoxC (w.alloc (.cells #[.string q7, .int .i64 q8, .string q9] 230)) w.heap.size [.string q7, .int .i64 q8, .string q9]) := Lib.hid (BoxC.made _ _ _)
  have HLT : Hid (∀ q, v.ownBlock = some q → q < w.heap.size) := Lib.hid (fun q hq => (h.row.lt q hq).2)
  have HB1 : Hid (Dr (w.alloc (.cells #[.string q7, .int .i64 q8, .string q9] 230)) base B M v b) := Lib.hid (h.below ((Below.refl _ _).alloc (Nat.le_refl _) _))
  have HBB : Hid (Below base w (w.alloc (.cells #[.string q7, .int .i64 q8, .string q9] 230))) := Lib.hid ((Below.refl _ _).alloc hbs _)
  have HBS := Lib.hid hbs
  clear h
  obtain ⟨va, vc, rfl⟩ := own_shape HB1.out.row
  obtain ⟨V, hV⟩ : ∃ V, V = w.alloc (.cells #[.string q7, .int .i64 q8, .string q9] 230) := ⟨_, rfl⟩
  rw [← hV] at HX HB1 HBB
  have HBV := Lib.hid (show base ≤ V.heap.size from Nat.le_trans HBS.out HBB.out.size)
  have x5 := HB1.out.box.cell 5 _ rfl
  have x4 := HB1.out.box.cell 4 _ rfl
  have d0 := HX.out.cell 0 _ rfl
  have d1 := HX.out.cell 1 _ rfl
  have d2 := HX.out.cell 2 _ rfl
  have hw : IntKind.i64.wrap (b.ts.length : Int) = (b.ts.length : Int) := IntWalk.i64_in _ (by omega)
  go_enter Tryz.func231, Tryz.ntmps231
  go_upto_region 1 with fail
  rw [← hV]
  clear hV
  go_region
  go_wp2_with fail
  go_ret
  exact ⟨rfl, HBB.out.drew⟩
set_option maxRecDepth 100000 in
set_option maxHeartbeats 1600000 in
theorem putDo_full (q7 : ByteArray) (q8 : Int) (q9 : ByteArray) {w : World} {base B M : Nat} {v : Value} {b : Bk} (h : Dr w base B M v b) (hbs : base ≤ w.heap.size) (hq : q7.size ≤ maxLen) (ht : b.ts.length ≤ 5) (hi : b.is.length ≤ 8) (hn : ¬ (b.ts.length : Int) < q8) (hh : hasI b.is q7 = false) (h8 : 8 ≤ b.is.length) :
    Calls Tryz.prog 231 #[.agg #[.string q7, .int .i64 q8, .string q9], .pointer (some ⟨B, 0, none⟩)] w fun e w' => e = .returned (.int .i64 9) ∧ Below base w w' := by
  have HX : Hid (BoxC (w.alloc (.cells #[.string q7, .int .i64 q8, .string q9] 230)) w.heap.size [.string q7, .int .i64 q8, .string q9]) := Lib.hid (BoxC.made _ _ _)
  have HLT : Hid (∀ q, v.ownBlock = some q → q < w.heap.size) := Lib.hid (fun q hq => (h.row.lt q hq).2)
  have HB1 : Hid (Dr (w.alloc (.cells #[.string q7, .int .i64 q8, .string q9] 230)) base B M v b) := Lib.hid (h.below ((Below.refl _ _).alloc (Nat.le_refl _) _))
  have HBB : Hid (Below base w (w.alloc (.cells #[.string q7, .int .i64 q8, .string q9] 230))) := Lib.hid ((Below.refl _ _).alloc hbs _)
  have HBS := Lib.hid hbs
  clear h
  obtain ⟨va, vc, rfl⟩ := own_shape HB1.out.row
  obtain ⟨V, hV⟩ : ∃ V, V = w.alloc (.cells #[.string q7, .int .i64 q8, .string q9] 230) := ⟨_, rfl⟩
  rw [← hV] at HX HB1 HBB
  have HBV := Lib.hid (show base ≤ V.heap.size from Nat.le_trans HBS.out HBB.out.size)
  have x5 := HB1.out.box.cell 5 _ rfl
  have x4 := HB1.out.box.cell 4 _ rfl
  have d0 := HX.out.cell 0 _ rfl
  have d1 := HX.out.cell 1 _ rfl
  have d2 := HX.out.cell 2 _ rfl
  have hw : IntKind.i64.wrap (b.ts.length : Int) = (b.ts.length : Int) := IntWalk.i64_in _ (by omega)
  go_enter Tryz.func231, Tryz.ntmps231
  go_upto_region 1 with fail
  rw [← hV]
  clear hV
  have HHAS := Lib.hid hh
  clear hh
  go_region
  go_upto_region 3 with fail
  clear x4 x5 d0 d1 d2
  have hmx : Tryz.prog.follows .mixedOrders = true := by kernel_rfl
  have HDR : Hid (∀ u, Below V.drew.drew.heap.size V.drew.drew u → Dr u base B M (.slice va b.ts.length vc) b) := Lib.hid (fun u hu => (HB1.out.below (Below.refl _ _).drew.drew).below hu)
  have HDX : Hid (∀ u, Below V.drew.drew.heap.size V.drew.drew u → BoxC u w.heap.size [.string q7, .int .i64 q8, .string q9]) := Lib.hid (fun u hu => (HX.out.below (Below.refl _ _).drew.drew).below hu)
  have HBU : Hid (∀ u, Below V.drew.drew.heap.size V.drew.drew u → Below base w u) := Lib.hid (fun u hu => HBB.out.drew.drew.trans (hu.mono HBV.out))
  refine TillZ.region (t := 12) hmx (fun u => Below V.drew.drew.heap.size V.drew.drew u) ?_
  have hS0 : Below V.drew.drew.heap.size V.drew.drew V.drew.drew := Below.refl _ _
  refine TillZ.take (i := 0) (v := .pointer (some ⟨B, 0, none⟩)) rfl rfl rfl (by kernel_rfl) (by kernel_rfl) (by kernel_rfl) (by kernel_rfl) hS0 (fun u hu => by go_simp) ?_
  simp only [Act.put, List.getElem_toArray, List.getElem_cons_zero, List.getElem_cons_succ, List.setIfInBounds_toArray, List.set_cons_zero, List.set_cons_succ]
  refine TillZ.take (i := 1) (v := .pointer (some ⟨B, 0, none⟩)) rfl rfl rfl (by kernel_rfl) (by kernel_rfl) (by kernel_rfl) (by kernel_rfl) hS0 (fun u hu => by go_simp) ?_
  simp only [Act.put, List.getElem_toArray, List.getElem_cons_zero, List.getElem_cons_succ, List.setIfInBounds_toArray, List.set_cons_zero, List.set_cons_succ]
  refine TillZ.take (i := 2) (v := .pointer (some ⟨B, 5, none⟩)) rfl rfl rfl (by kernel_rfl) (by kernel_rfl) (by kernel_rfl) (by kernel_rfl) hS0 (fun u hu => by go_simp) ?_
  simp only [Act.put, List.getElem_toArray, List.getElem_cons_zero, List.getElem_cons_succ, List.setIfInBounds_toArray, List.set_cons_zero, List.set_cons_succ]
  refine TillZ.take (i := 3) (v := .map (some M)) rfl rfl rfl (by kernel_rfl) (by kernel_rfl) (by kernel_rfl) (by kernel_rfl) hS0 (fun u hu => by have z := (HDR.out u hu).box.cell 5 _ rfl; go_simp) ?_
  simp only [Act.put, List.getElem_toArray, List.getElem_cons_zero, List.getElem_cons_succ, List.setIfInBounds_toArray, List.set_cons_zero, List.set_cons_succ]
  refine TillZ.take (i := 4) (v := .pointer (some ⟨w.heap.size, 0, none⟩)) rfl rfl rfl (by kernel_rfl) (by kernel_rfl) (by kernel_rfl) (by kernel_rfl) hS0 (fun u hu => by go_simp) ?_
  simp only [Act.put, List.getElem_toArray, List.getElem_cons_zero, List.getElem_cons_succ, List.setIfInBounds_toArray, List.set_cons_zero, List.set_cons_succ]
  refine TillZ.take (i := 5) (v := .string q7) rfl rfl rfl (by kernel_rfl) (by kernel_rfl) (by kernel_rfl) (by kernel_rfl) hS0 (fun u hu => by have z := (HDX.out u hu).cell 0 _ rfl; go_simp) ?_
  simp only [Act.put, List.getElem_toArray, List.getElem_cons_zero, List.getElem_cons_succ, List.setIfInBounds_toArray, List.set_cons_zero, List.set_cons_succ]
  refine TillZ.take (i := 6) (v := .tuple #[.agg #[.string (lookI b.is q7).nm, .int .i64 (lookI b.is q7).tm, .string (lookI b.is q7).bd], .bool false]) rfl rfl rfl (by kernel_rfl) (by kernel_rfl) (by kernel_rfl) (by kernel_rfl) hS0 (fun u hu => by have z := look_any (HDR.out u hu).rise (HDR.out u hu).map hq; rw [HHAS.out] at z; go_simp) ?_
  simp only [Act.put, List.getElem_toArray, List.getElem_cons_zero, List.getElem_cons_succ, List.setIfInBounds_toArray, List.set_cons_zero, List.set_cons_succ]
  refine TillZ.take (i := 7) (v := .tuple #[.agg #[.string (lookI b.is q7).nm, .int .i64 (lookI b.is q7).tm, .string (lookI b.is q7).bd], .bool false]) rfl rfl rfl (by kernel_rfl) (by kernel_rfl) (by kernel_rfl) (by kernel_rfl) hS0 (fun u hu => by go_simp) ?_
  simp only [Act.put, List.getElem_toArray, List.getElem_cons_zero, List.getElem_cons_succ, List.setIfInBounds_toArray, List.set_cons_zero, List.set_cons_succ]
  refine TillZ.take (i := 8) (v := .agg #[.string (lookI b.is q7).nm, .int .i64 (lookI b.is q7).tm, .string (lookI b.is q7).bd]) rfl rfl rfl (by kernel_rfl) (by kernel_rfl) (by kernel_rfl) (by kernel_rfl) hS0 (fun u hu => by go_simp) ?_
  simp only [Act.put, List.getElem_toArray, List.getElem_cons_zero, List.getElem_cons_succ, List.setIfInBounds_toArray, List.set_cons_zero, List.set_cons_succ]
  refine TillZ.take (i := 9) (v := .bool false) rfl rfl rfl (by kernel_rfl) (by kernel_rfl) (by kernel_rfl) (by kernel_rfl) hS0 (fun u hu => by go_simp) ?_
  simp only [Act.put, List.getElem_toArray, List.getElem_cons_zero, List.getElem_cons_succ, List.setIfInBounds_toArray, List.set_cons_zero, List.set_cons_succ]
  refine TillZ.one (i := 10) (by kernel_rfl) ?_
  refine TillZ.opz (i := 10) (v := .pointer (some ⟨V.heap.size, 0, none⟩)) (w' := V.drew.drew.alloc (.cells #[.string ⟨#[]⟩, .int .i64 0, .string ⟨#[]⟩] 108)) rfl rfl rfl (by go_simp) (hS0.alloc (Nat.le_refl _) _) ?_
  simp only [Act.put, List.getElem_toArray, List.getElem_cons_zero, List.getElem_cons_succ, List.setIfInBounds_toArray, List.set_cons_zero, List.set_cons_succ]
  refine TillZ.one (i := 11) (by kernel_rfl) ?_
  refine TillZ.opz_skip (i := 11) (w' := V.drew.drew.alloc (.cells #[.string (lookI b.is q7).nm, .int .i64 (lookI b.is q7).tm, .string (lookI b.is q7).bd] 108)) rfl rfl rfl (by go_simp) (hS0.alloc (Nat.le_refl _) _) ?_
  simp only [Act.put, List.getElem_toArray, List.getElem_cons_zero, List.getElem_cons_succ, List.setIfInBounds_toArray, List.set_cons_zero, List.set_cons_succ]
  have S3 := hS0.alloc (Nat.le_refl _) (.cells #[.string (lookI b.is q7).nm, .int .i64 (lookI b.is q7).tm, .string (lookI b.is q7).bd] 108)
  generalize V.drew.drew.alloc (.cells #[.string (lookI b.is q7).nm, .int .i64 (lookI b.is q7).tm, .string (lookI b.is q7).bd] 108) = W3 at *
  refine TillZ.hand (v := .bool false) (by kernel_rfl) rfl rfl (by go_simp) ?_
  simp only [Act.put, List.getElem_toArray, List.getElem_cons_zero, List.getElem_cons_succ, List.setIfInBounds_toArray, List.set_cons_zero, List.set_cons_succ]
  refine TillZ.any_done (by kernel_rfl) ?_ _
  have HB2 := Lib.hid (HDR.out _ S3)
  have HX2 := Lib.hid (HDX.out _ S3)
  have HBB2 := Lib.hid (HBU.out _ S3)
  have x5 := HB2.out.box.cell 5 _ rfl
  have x4 := HB2.out.box.cell 4 _ rfl
  have d0 := HX2.out.cell 0 _ rfl
  have d1 := HX2.out.cell 1 _ rfl
  have d2 := HX2.out.cell 2 _ rfl
  clear S3 hS0
  have hlen := fun ty => World.ownsMap.len HB2.out.map Tryz.underlying200 ty
  rw [size_mapI] at hlen
  have h8' : (8 : Int) ≤ (b.is.length : Int) := by omega
  go_wp2_with fail
  go_ret
  exact ⟨rfl, HBB2.out⟩
set_option maxRecDepth 100000 in
set_option maxHeartbeats 1600000 in
theorem putDo_old (q7 : ByteArray) (q8 : Int) (q9 : ByteArray) {w : World} {base B M : Nat} {v : Value} {b : Bk} (h : Dr w base B M v b) (hbs : base ≤ w.heap.size) (hq : q7.size ≤ maxLen) (ht : b.ts.length ≤ 5) (hi : b.is.length ≤ 8) (hn : ¬ (b.ts.length : Int) < q8) (hh : hasI b.is q7 = true)  :
    Calls Tryz.prog 231 #[.agg #[.string q7, .int .i64 q8, .string q9], .pointer (some ⟨B, 0, none⟩)] w fun e w' => e = .returned (.int .i64 0) ∧ Dr w' base B M v ⟨b.c0, b.c1, b.c2, b.c3, b.ts, genI [⟨q7, q8, q9⟩] q7 b.is⟩ ∧ Below base w w' := by
  have HX : Hid (BoxC (w.alloc (.cells #[.string q7, .int .i64 q8, .string q9] 230)) w.heap.size [.string q7, .int .i64 q8, .string q9]) := Lib.hid (BoxC.made _ _ _)
  have HLT : Hid (∀ q, v.ownBlock = some q → q < w.heap.size) := Lib.hid (fun q hq => (h.row.lt q hq).2)
  have HB1 : Hid (Dr (w.alloc (.cells #[.string q7, .int .i64 q8, .string q9] 230)) base B M v b) := Lib.hid (h.below ((Below.refl _ _).alloc (Nat.le_refl _) _))
  have HBB : Hid (Below base w (w.alloc (.cells #[.string q7, .int .i64 q8, .string q9] 230))) := Lib.hid ((Below.refl _ _).alloc hbs _)
  have HBS := Lib.hid hbs
  clear h
  obtain ⟨va, vc, rfl⟩ := own_shape HB1.out.row
  obtain ⟨V, hV⟩ : ∃ V, V = w.alloc (.cells #[.string q7, .int .i64 q8, .string q9] 230) := ⟨_, rfl⟩
  rw [← hV] at HX HB1 HBB
  have HBV := Lib.hid (show base ≤ V.heap.size from Nat.le_trans HBS.out HBB.out.size)
  have x5 := HB1.out.box.cell 5 _ rfl
  have x4 := HB1.out.box.cell 4 _ rfl
  have d0 := HX.out.cell 0 _ rfl
  have d1 := HX.out.cell 1 _ rfl
  have d2 := HX.out.cell 2 _ rfl
  have hw : IntKind.i64.wrap (b.ts.length : Int) = (b.ts.length : Int) := IntWalk.i64_in _ (by omega)
  go_enter Tryz.func231, Tryz.ntmps231
  go_upto_region 1 with fail
  rw [← hV]
  clear hV
  have HHAS := Lib.hid hh
  clear hh
  go_region
  go_upto_region 3 with fail
  clear x4 x5 d0 d1 d2
  have hmx : Tryz.prog.follows .mixedOrders = true := by kernel_rfl
  have HDR : Hid (∀ u, Below V.drew.drew.heap.size V.drew.drew u → Dr u base B M (.slice va b.ts.length vc) b) := Lib.hid (fun u hu => (HB1.out.below (Below.refl _ _).drew.drew).below hu)
  have HDX : Hid (∀ u, Below V.drew.drew.heap.size V.drew.drew u → BoxC u w.heap.size [.string q7, .int .i64 q8, .string q9]) := Lib.hid (fun u hu => (HX.out.below (Below.refl _ _).drew.drew).below hu)
  have HBU : Hid (∀ u, Below V.drew.drew.heap.size V.drew.drew u → Below base w u) := Lib.hid (fun u hu => HBB.out.drew.drew.trans (hu.mono HBV.out))
  refine TillZ.region (t := 12) hmx (fun u => Below V.drew.drew.heap.size V.drew.drew u) ?_
  have hS0 : Below V.drew.drew.heap.size V.drew.drew V.drew.drew := Below.refl _ _
  refine TillZ.take (i := 0) (v := .pointer (some ⟨B, 0, none⟩)) rfl rfl rfl (by kernel_rfl) (by kernel_rfl) (by kernel_rfl) (by kernel_rfl) hS0 (fun u hu => by go_simp) ?_
  simp only [Act.put, List.getElem_toArray, List.getElem_cons_zero, List.getElem_cons_succ, List.setIfInBounds_toArray, List.set_cons_zero, List.set_cons_succ]
  refine TillZ.take (i := 1) (v := .pointer (some ⟨B, 0, none⟩)) rfl rfl rfl (by kernel_rfl) (by kernel_rfl) (by kernel_rfl) (by kernel_rfl) hS0 (fun u hu => by go_simp) ?_
  simp only [Act.put, List.getElem_toArray, List.getElem_cons_zero, List.getElem_cons_succ, List.setIfInBounds_toArray, List.set_cons_zero, List.set_cons_succ]
  refine TillZ.take (i := 2) (v := .pointer (some ⟨B, 5, none⟩)) rfl rfl rfl (by kernel_rfl) (by kernel_rfl) (by kernel_rfl) (by kernel_rfl) hS0 (fun u hu => by go_simp) ?_
  simp only [Act.put, List.getElem_toArray, List.getElem_cons_zero, List.getElem_cons_succ, List.setIfInBounds_toArray, List.set_cons_zero, List.set_cons_succ]
  refine TillZ.take (i := 3) (v := .map (some M)) rfl rfl rfl (by kernel_rfl) (by kernel_rfl) (by kernel_rfl) (by kernel_rfl) hS0 (fun u hu => by have z := (HDR.out u hu).box.cell 5 _ rfl; go_simp) ?_
  simp only [Act.put, List.getElem_toArray, List.getElem_cons_zero, List.getElem_cons_succ, List.setIfInBounds_toArray, List.set_cons_zero, List.set_cons_succ]
  refine TillZ.take (i := 4) (v := .pointer (some ⟨w.heap.size, 0, none⟩)) rfl rfl rfl (by kernel_rfl) (by kernel_rfl) (by kernel_rfl) (by kernel_rfl) hS0 (fun u hu => by go_simp) ?_
  simp only [Act.put, List.getElem_toArray, List.getElem_cons_zero, List.getElem_cons_succ, List.setIfInBounds_toArray, List.set_cons_zero, List.set_cons_succ]
  refine TillZ.take (i := 5) (v := .string q7) rfl rfl rfl (by kernel_rfl) (by kernel_rfl) (by kernel_rfl) (by kernel_rfl) hS0 (fun u hu => by have z := (HDX.out u hu).cell 0 _ rfl; go_simp) ?_
  simp only [Act.put, List.getElem_toArray, List.getElem_cons_zero, List.getElem_cons_succ, List.setIfInBounds_toArray, List.set_cons_zero, List.set_cons_succ]
  refine TillZ.take (i := 6) (v := .tuple #[.agg #[.string (lookI b.is q7).nm, .int .i64 (lookI b.is q7).tm, .string (lookI b.is q7).bd], .bool true]) rfl rfl rfl (by kernel_rfl) (by kernel_rfl) (by kernel_rfl) (by kernel_rfl) hS0 (fun u hu => by have z := look_any (HDR.out u hu).rise (HDR.out u hu).map hq; rw [HHAS.out] at z; go_simp) ?_
  simp only [Act.put, List.getElem_toArray, List.getElem_cons_zero, List.getElem_cons_succ, List.setIfInBounds_toArray, List.set_cons_zero, List.set_cons_succ]
  refine TillZ.take (i := 7) (v := .tuple #[.agg #[.string (lookI b.is q7).nm, .int .i64 (lookI b.is q7).tm, .string (lookI b.is q7).bd], .bool true]) rfl rfl rfl (by kernel_rfl) (by kernel_rfl) (by kernel_rfl) (by kernel_rfl) hS0 (fun u hu => by go_simp) ?_
  simp only [Act.put, List.getElem_toArray, List.getElem_cons_zero, List.getElem_cons_succ, List.setIfInBounds_toArray, List.set_cons_zero, List.set_cons_succ]
  refine TillZ.take (i := 8) (v := .agg #[.string (lookI b.is q7).nm, .int .i64 (lookI b.is q7).tm, .string (lookI b.is q7).bd]) rfl rfl rfl (by kernel_rfl) (by kernel_rfl) (by kernel_rfl) (by kernel_rfl) hS0 (fun u hu => by go_simp) ?_
  simp only [Act.put, List.getElem_toArray, List.getElem_cons_zero, List.getElem_cons_succ, List.setIfInBounds_toArray, List.set_cons_zero, List.set_cons_succ]
  refine TillZ.take (i := 9) (v := .bool true) rfl rfl rfl (by kernel_rfl) (by kernel_rfl) (by kernel_rfl) (by kernel_rfl) hS0 (fun u hu => by go_simp) ?_
  simp only [Act.put, List.getElem_toArray, List.getElem_cons_zero, List.getElem_cons_succ, List.setIfInBounds_toArray, List.set_cons_zero, List.set_cons_succ]
  refine TillZ.one (i := 10) (by kernel_rfl) ?_
  refine TillZ.opz (i := 10) (v := .pointer (some ⟨V.heap.size, 0, none⟩)) (w' := V.drew.drew.alloc (.cells #[.string ⟨#[]⟩, .int .i64 0, .string ⟨#[]⟩] 108)) rfl rfl rfl (by go_simp) (hS0.alloc (Nat.le_refl _) _) ?_
  simp only [Act.put, List.getElem_toArray, List.getElem_cons_zero, List.getElem_cons_succ, List.setIfInBounds_toArray, List.set_cons_zero, List.set_cons_succ]
  refine TillZ.one (i := 11) (by kernel_rfl) ?_
  refine TillZ.opz_skip (i := 11) (w' := V.drew.drew.alloc (.cells #[.string (lookI b.is q7).nm, .int .i64 (lookI b.is q7).tm, .string (lookI b.is q7).bd] 108)) rfl rfl rfl (by go_simp) (hS0.alloc (Nat.le_refl _) _) ?_
  simp only [Act.put, List.getElem_toArray, List.getElem_cons_zero, List.getElem_cons_succ, List.setIfInBounds_toArray, List.set_cons_zero, List.set_cons_succ]
  have S3 := hS0.alloc (Nat.le_refl _) (.cells #[.string (lookI b.is q7).nm, .int .i64 (lookI b.is q7).tm, .string (lookI b.is q7).bd] 108)
  generalize V.drew.drew.alloc (.cells #[.string (lookI b.is q7).nm, .int .i64 (lookI b.is q7).tm, .string (lookI b.is q7).bd] 108) = W3 at *
  refine TillZ.hand (v := .bool true) (by kernel_rfl) rfl rfl (by go_simp) ?_
  simp only [Act.put, List.getElem_toArray, List.getElem_cons_zero, List.getElem_cons_succ, List.setIfInBounds_toArray, List.set_cons_zero, List.set_cons_succ]
  refine TillZ.any_done (by kernel_rfl) ?_ _
  have HB2 := Lib.hid (HDR.out _ S3)
  have HX2 := Lib.hid (HDX.out _ S3)
  have HBB2 := Lib.hid (HBU.out _ S3)
  have x5 := HB2.out.box.cell 5 _ rfl
  have x4 := HB2.out.box.cell 4 _ rfl
  have d0 := HX2.out.cell 0 _ rfl
  have d1 := HX2.out.cell 1 _ rfl
  have d2 := HX2.out.cell 2 _ rfl
  clear S3 hS0
  go_wp2_with fail
  have HBV3 := Lib.hid (Nat.le_trans HBS.out HBB2.out.size)
  clear x4 x5 d0 d1 d2
  refine TillZ.region (t := 7) hmx (fun u => Below W3.heap.size W3 u) ?_
  have hS0 : Below W3.heap.size W3 W3.drew := (Below.refl _ _).drew
  have HD3 : Hid (∀ u, Below W3.heap.size W3 u → Dr u base B M (.slice va b.ts.length vc) b) := Lib.hid (fun u hu => HB2.out.below hu)
  have HX3 : Hid (∀ u, Below W3.heap.size W3 u → BoxC u w.heap.size [.string q7, .int .i64 q8, .string q9]) := Lib.hid (fun u hu => HX2.out.below hu)
  refine TillZ.take (i := 0) (v := .pointer (some ⟨B, 0, none⟩)) rfl rfl rfl (by kernel_rfl) (by kernel_rfl) (by kernel_rfl) (by kernel_rfl) hS0 (fun u hu => by go_simp) ?_
  simp only [Act.put, List.getElem_toArray, List.getElem_cons_zero, List.getElem_cons_succ, List.setIfInBounds_toArray, List.set_cons_zero, List.set_cons_succ]
  refine TillZ.take (i := 1) (v := .pointer (some ⟨B, 0, none⟩)) rfl rfl rfl (by kernel_rfl) (by kernel_rfl) (by kernel_rfl) (by kernel_rfl) hS0 (fun u hu => by go_simp) ?_
  simp only [Act.put, List.getElem_toArray, List.getElem_cons_zero, List.getElem_cons_succ, List.setIfInBounds_toArray, List.set_cons_zero, List.set_cons_succ]
  refine TillZ.take (i := 2) (v := .pointer (some ⟨B, 5, none⟩)) rfl rfl rfl (by kernel_rfl) (by kernel_rfl) (by kernel_rfl) (by kernel_rfl) hS0 (fun u hu => by go_simp) ?_
  simp only [Act.put, List.getElem_toArray, List.getElem_cons_zero, List.getElem_cons_succ, List.setIfInBounds_toArray, List.set_cons_zero, List.set_cons_succ]
  refine TillZ.take (i := 3) (v := .map (some M)) rfl rfl rfl (by kernel_rfl) (by kernel_rfl) (by kernel_rfl) (by kernel_rfl) hS0 (fun u hu => by have z := (HD3.out u hu).box.cell 5 _ rfl; go_simp) ?_
  simp only [Act.put, List.getElem_toArray, List.getElem_cons_zero, List.getElem_cons_succ, List.setIfInBounds_toArray, List.set_cons_zero, List.set_cons_succ]
  refine TillZ.take (i := 4) (v := .pointer (some ⟨w.heap.size, 0, none⟩)) rfl rfl rfl (by kernel_rfl) (by kernel_rfl) (by kernel_rfl) (by kernel_rfl) hS0 (fun u hu => by go_simp) ?_
  simp only [Act.put, List.getElem_toArray, List.getElem_cons_zero, List.getElem_cons_succ, List.setIfInBounds_toArray, List.set_cons_zero, List.set_cons_succ]
  refine TillZ.take (i := 5) (v := .string q7) rfl rfl rfl (by kernel_rfl) (by kernel_rfl) (by kernel_rfl) (by kernel_rfl) hS0 (fun u hu => by have z := (HX3.out u hu).cell 0 _ rfl; go_simp) ?_
  simp only [Act.put, List.getElem_toArray, List.getElem_cons_zero, List.getElem_cons_succ, List.setIfInBounds_toArray, List.set_cons_zero, List.set_cons_succ]
  refine TillZ.take (i := 6) (v := .agg #[.string q7, .int .i64 q8, .string q9]) rfl rfl rfl (by kernel_rfl) (by kernel_rfl) (by kernel_rfl) (by kernel_rfl) hS0 (fun u hu => by have z0 := (HX3.out u hu).cell 0 _ rfl; have z1 := (HX3.out u hu).cell 1 _ rfl; have z2 := (HX3.out u hu).cell 2 _ rfl; go_simp) ?_
  simp only [Act.put, List.getElem_toArray, List.getElem_cons_zero, List.getElem_cons_succ, List.setIfInBounds_toArray, List.set_cons_zero, List.set_cons_succ]
  obtain ⟨w4, hrun, hown, hgr⟩ := World.ownsMap.update (HD3.out _ hS0).map keyS Tryz.underlying200 (by unfold maxLen; omega) (imKey_of hq) (show imR (.agg #[.string q7, .int .i64 q8, .string q9]) = some (imDat ⟨q7, q8, q9⟩, []) from rfl)
  have HO := Lib.hid hown
  have HT := Lib.hid hgr
  have HDD := Lib.hid (HD3.out _ hS0)
  have HBD := Lib.hid (HBB2.out.drew)
  clear hown hgr
  refine TillZ.hand_skip (w' := w4) (by kernel_rfl) rfl rfl (by go_simp) ?_
  simp only [Act.put, List.getElem_toArray, List.getElem_cons_zero, List.getElem_cons_succ, List.setIfInBounds_toArray, List.set_cons_zero, List.set_cons_succ]
  refine TillZ.any_done (by kernel_rfl) ?_ _
  go_wp2_with fail
  go_ret
  exact ⟨rfl, HDD.out.mapped HT.out (by rw [mapI_put (x := ⟨q7, q8, q9⟩) HB2.out.rise]; exact HO.out) (gen_rise (.inr ⟨_, rfl, rfl⟩) HB2.out.rise), HBD.out.grown HT.out HBV3.out (fun q hq => by have := HB2.out.hM; simp at hq; omega)⟩
set_option maxRecDepth 100000 in
set_option maxHeartbeats 1600000 in
theorem putDo_new (q7 : ByteArray) (q8 : Int) (q9 : ByteArray) {w : World} {base B M : Nat} {v : Value} {b : Bk} (h : Dr w base B M v b) (hbs : base ≤ w.heap.size) (hq : q7.size ≤ maxLen) (ht : b.ts.length ≤ 5) (hi : b.is.length ≤ 8) (hn : ¬ (b.ts.length : Int) < q8) (hh : hasI b.is q7 = false) (h8 : ¬ 8 ≤ b.is.length) :
    Calls Tryz.prog 231 #[.agg #[.string q7, .int .i64 q8, .string q9], .pointer (some ⟨B, 0, none⟩)] w fun e w' => e = .returned (.int .i64 0) ∧ Dr w' base B M v ⟨b.c0, b.c1, b.c2, b.c3, b.ts, genI [⟨q7, q8, q9⟩] q7 b.is⟩ ∧ Below base w w' := by
  have HX : Hid (BoxC (w.alloc (.cells #[.string q7, .int .i64 q8, .string q9] 230)) w.heap.size [.string q7, .int .i64 q8, .string q9]) := Lib.hid (BoxC.made _ _ _)
  have HLT : Hid (∀ q, v.ownBlock = some q → q < w.heap.size) := Lib.hid (fun q hq => (h.row.lt q hq).2)
  have HB1 : Hid (Dr (w.alloc (.cells #[.string q7, .int .i64 q8, .string q9] 230)) base B M v b) := Lib.hid (h.below ((Below.refl _ _).alloc (Nat.le_refl _) _))
  have HBB : Hid (Below base w (w.alloc (.cells #[.string q7, .int .i64 q8, .string q9] 230))) := Lib.hid ((Below.refl _ _).alloc hbs _)
  have HBS := Lib.hid hbs
  clear h
  obtain ⟨va, vc, rfl⟩ := own_shape HB1.out.row
  obtain ⟨V, hV⟩ : ∃ V, V = w.alloc (.cells #[.string q7, .int .i64 q8, .string q9] 230) := ⟨_, rfl⟩
  rw [← hV] at HX HB1 HBB
  have HBV := Lib.hid (show base ≤ V.heap.size from Nat.le_trans HBS.out HBB.out.size)
  have x5 := HB1.out.box.cell 5 _ rfl
  have x4 := HB1.out.box.cell 4 _ rfl
  have d0 := HX.out.cell 0 _ rfl
  have d1 := HX.out.cell 1 _ rfl
  have d2 := HX.out.cell 2 _ rfl
  have hw : IntKind.i64.wrap (b.ts.length : Int) = (b.ts.length : Int) := IntWalk.i64_in _ (by omega)
  go_enter Tryz.func231, Tryz.ntmps231
  go_upto_region 1 with fail
  rw [← hV]
  clear hV
  have HHAS := Lib.hid hh
  clear hh
  go_region
  go_upto_region 3 with fail
  clear x4 x5 d0 d1 d2
  have hmx : Tryz.prog.follows .mixedOrders = true := by kernel_rfl
  have HDR : Hid (∀ u, Below V.drew.drew.heap.size V.drew.drew u → Dr u base B M (.slice va b.ts.length vc) b) := Lib.hid (fun u hu => (HB1.out.below (Below.refl _ _).drew.drew).below hu)
  have HDX : Hid (∀ u, Below V.drew.drew.heap.size V.drew.drew u → BoxC u w.heap.size [.string q7, .int .i64 q8, .string q9]) := Lib.hid (fun u hu => (HX.out.below (Below.refl _ _).drew.drew).below hu)
  have HBU : Hid (∀ u, Below V.drew.drew.heap.size V.drew.drew u → Below base w u) := Lib.hid (fun u hu => HBB.out.drew.drew.trans (hu.mono HBV.out))
  refine TillZ.region (t := 12) hmx (fun u => Below V.drew.drew.heap.size V.drew.drew u) ?_
  have hS0 : Below V.drew.drew.heap.size V.drew.drew V.drew.drew := Below.refl _ _
  refine TillZ.take (i := 0) (v := .pointer (some ⟨B, 0, none⟩)) rfl rfl rfl (by kernel_rfl) (by kernel_rfl) (by kernel_rfl) (by kernel_rfl) hS0 (fun u hu => by go_simp) ?_
  simp only [Act.put, List.getElem_toArray, List.getElem_cons_zero, List.getElem_cons_succ, List.setIfInBounds_toArray, List.set_cons_zero, List.set_cons_succ]
  refine TillZ.take (i := 1) (v := .pointer (some ⟨B, 0, none⟩)) rfl rfl rfl (by kernel_rfl) (by kernel_rfl) (by kernel_rfl) (by kernel_rfl) hS0 (fun u hu => by go_simp) ?_
  simp only [Act.put, List.getElem_toArray, List.getElem_cons_zero, List.getElem_cons_succ, List.setIfInBounds_toArray, List.set_cons_zero, List.set_cons_succ]
  refine TillZ.take (i := 2) (v := .pointer (some ⟨B, 5, none⟩)) rfl rfl rfl (by kernel_rfl) (by kernel_rfl) (by kernel_rfl) (by kernel_rfl) hS0 (fun u hu => by go_simp) ?_
  simp only [Act.put, List.getElem_toArray, List.getElem_cons_zero, List.getElem_cons_succ, List.setIfInBounds_toArray, List.set_cons_zero, List.set_cons_succ]
  refine TillZ.take (i := 3) (v := .map (some M)) rfl rfl rfl (by kernel_rfl) (by kernel_rfl) (by kernel_rfl) (by kernel_rfl) hS0 (fun u hu => by have z := (HDR.out u hu).box.cell 5 _ rfl; go_simp) ?_
  simp only [Act.put, List.getElem_toArray, List.getElem_cons_zero, List.getElem_cons_succ, List.setIfInBounds_toArray, List.set_cons_zero, List.set_cons_succ]
  refine TillZ.take (i := 4) (v := .pointer (some ⟨w.heap.size, 0, none⟩)) rfl rfl rfl (by kernel_rfl) (by kernel_rfl) (by kernel_rfl) (by kernel_rfl) hS0 (fun u hu => by go_simp) ?_
  simp only [Act.put, List.getElem_toArray, List.getElem_cons_zero, List.getElem_cons_succ, List.setIfInBounds_toArray, List.set_cons_zero, List.set_cons_succ]
  refine TillZ.take (i := 5) (v := .string q7) rfl rfl rfl (by kernel_rfl) (by kernel_rfl) (by kernel_rfl) (by kernel_rfl) hS0 (fun u hu => by have z := (HDX.out u hu).cell 0 _ rfl; go_simp) ?_
  simp only [Act.put, List.getElem_toArray, List.getElem_cons_zero, List.getElem_cons_succ, List.setIfInBounds_toArray, List.set_cons_zero, List.set_cons_succ]
  refine TillZ.take (i := 6) (v := .tuple #[.agg #[.string (lookI b.is q7).nm, .int .i64 (lookI b.is q7).tm, .string (lookI b.is q7).bd], .bool false]) rfl rfl rfl (by kernel_rfl) (by kernel_rfl) (by kernel_rfl) (by kernel_rfl) hS0 (fun u hu => by have z := look_any (HDR.out u hu).rise (HDR.out u hu).map hq; rw [HHAS.out] at z; go_simp) ?_
  simp only [Act.put, List.getElem_toArray, List.getElem_cons_zero, List.getElem_cons_succ, List.setIfInBounds_toArray, List.set_cons_zero, List.set_cons_succ]
  refine TillZ.take (i := 7) (v := .tuple #[.agg #[.string (lookI b.is q7).nm, .int .i64 (lookI b.is q7).tm, .string (lookI b.is q7).bd], .bool false]) rfl rfl rfl (by kernel_rfl) (by kernel_rfl) (by kernel_rfl) (by kernel_rfl) hS0 (fun u hu => by go_simp) ?_
  simp only [Act.put, List.getElem_toArray, List.getElem_cons_zero, List.getElem_cons_succ, List.setIfInBounds_toArray, List.set_cons_zero, List.set_cons_succ]
  refine TillZ.take (i := 8) (v := .agg #[.string (lookI b.is q7).nm, .int .i64 (lookI b.is q7).tm, .string (lookI b.is q7).bd]) rfl rfl rfl (by kernel_rfl) (by kernel_rfl) (by kernel_rfl) (by kernel_rfl) hS0 (fun u hu => by go_simp) ?_
  simp only [Act.put, List.getElem_toArray, List.getElem_cons_zero, List.getElem_cons_succ, List.setIfInBounds_toArray, List.set_cons_zero, List.set_cons_succ]
  refine TillZ.take (i := 9) (v := .bool false) rfl rfl rfl (by kernel_rfl) (by kernel_rfl) (by kernel_rfl) (by kernel_rfl) hS0 (fun u hu => by go_simp) ?_
  simp only [Act.put, List.getElem_toArray, List.getElem_cons_zero, List.getElem_cons_succ, List.setIfInBounds_toArray, List.set_cons_zero, List.set_cons_succ]
  refine TillZ.one (i := 10) (by kernel_rfl) ?_
  refine TillZ.opz (i := 10) (v := .pointer (some ⟨V.heap.size, 0, none⟩)) (w' := V.drew.drew.alloc (.cells #[.string ⟨#[]⟩, .int .i64 0, .string ⟨#[]⟩] 108)) rfl rfl rfl (by go_simp) (hS0.alloc (Nat.le_refl _) _) ?_
  simp only [Act.put, List.getElem_toArray, List.getElem_cons_zero, List.getElem_cons_succ, List.setIfInBounds_toArray, List.set_cons_zero, List.set_cons_succ]
  refine TillZ.one (i := 11) (by kernel_rfl) ?_
  refine TillZ.opz_skip (i := 11) (w' := V.drew.drew.alloc (.cells #[.string (lookI b.is q7).nm, .int .i64 (lookI b.is q7).tm, .string (lookI b.is q7).bd] 108)) rfl rfl rfl (by go_simp) (hS0.alloc (Nat.le_refl _) _) ?_
  simp only [Act.put, List.getElem_toArray, List.getElem_cons_zero, List.getElem_cons_succ, List.setIfInBounds_toArray, List.set_cons_zero, List.set_cons_succ]
  have S3 := hS0.alloc (Nat.le_refl _) (.cells #[.string (lookI b.is q7).nm, .int .i64 (lookI b.is q7).tm, .string (lookI b.is q7).bd] 108)
  generalize V.drew.drew.alloc (.cells #[.string (lookI b.is q7).nm, .int .i64 (lookI b.is q7).tm, .string (lookI b.is q7).bd] 108) = W3 at *
  refine TillZ.hand (v := .bool false) (by kernel_rfl) rfl rfl (by go_simp) ?_
  simp only [Act.put, List.getElem_toArray, List.getElem_cons_zero, List.getElem_cons_succ, List.setIfInBounds_toArray, List.set_cons_zero, List.set_cons_succ]
  refine TillZ.any_done (by kernel_rfl) ?_ _
  have HB2 := Lib.hid (HDR.out _ S3)
  have HX2 := Lib.hid (HDX.out _ S3)
  have HBB2 := Lib.hid (HBU.out _ S3)
  have x5 := HB2.out.box.cell 5 _ rfl
  have x4 := HB2.out.box.cell 4 _ rfl
  have d0 := HX2.out.cell 0 _ rfl
  have d1 := HX2.out.cell 1 _ rfl
  have d2 := HX2.out.cell 2 _ rfl
  clear S3 hS0
  have hlen := fun ty => World.ownsMap.len HB2.out.map Tryz.underlying200 ty
  rw [size_mapI] at hlen
  have h8' : ¬ (8 : Int) ≤ (b.is.length : Int) := by omega
  go_wp2_with fail
  have HBV3 := Lib.hid (Nat.le_trans HBS.out HBB2.out.size)
  clear x4 x5 d0 d1 d2
  refine TillZ.region (t := 7) hmx (fun u => Below W3.heap.size W3 u) ?_
  have hS0 : Below W3.heap.size W3 W3.drew := (Below.refl _ _).drew
  have HD3 : Hid (∀ u, Below W3.heap.size W3 u → Dr u base B M (.slice va b.ts.length vc) b) := Lib.hid (fun u hu => HB2.out.below hu)
  have HX3 : Hid (∀ u, Below W3.heap.size W3 u → BoxC u w.heap.size [.string q7, .int .i64 q8, .string q9]) := Lib.hid (fun u hu => HX2.out.below hu)
  refine TillZ.take (i := 0) (v := .pointer (some ⟨B, 0, none⟩)) rfl rfl rfl (by kernel_rfl) (by kernel_rfl) (by kernel_rfl) (by kernel_rfl) hS0 (fun u hu => by go_simp) ?_
  simp only [Act.put, List.getElem_toArray, List.getElem_cons_zero, List.getElem_cons_succ, List.setIfInBounds_toArray, List.set_cons_zero, List.set_cons_succ]
  refine TillZ.take (i := 1) (v := .pointer (some ⟨B, 0, none⟩)) rfl rfl rfl (by kernel_rfl) (by kernel_rfl) (by kernel_rfl) (by kernel_rfl) hS0 (fun u hu => by go_simp) ?_
  simp only [Act.put, List.getElem_toArray, List.getElem_cons_zero, List.getElem_cons_succ, List.setIfInBounds_toArray, List.set_cons_zero, List.set_cons_succ]
  refine TillZ.take (i := 2) (v := .pointer (some ⟨B, 5, none⟩)) rfl rfl rfl (by kernel_rfl) (by kernel_rfl) (by kernel_rfl) (by kernel_rfl) hS0 (fun u hu => by go_simp) ?_
  simp only [Act.put, List.getElem_toArray, List.getElem_cons_zero, List.getElem_cons_succ, List.setIfInBounds_toArray, List.set_cons_zero, List.set_cons_succ]
  refine TillZ.take (i := 3) (v := .map (some M)) rfl rfl rfl (by kernel_rfl) (by kernel_rfl) (by kernel_rfl) (by kernel_rfl) hS0 (fun u hu => by have z := (HD3.out u hu).box.cell 5 _ rfl; go_simp) ?_
  simp only [Act.put, List.getElem_toArray, List.getElem_cons_zero, List.getElem_cons_succ, List.setIfInBounds_toArray, List.set_cons_zero, List.set_cons_succ]
  refine TillZ.take (i := 4) (v := .pointer (some ⟨w.heap.size, 0, none⟩)) rfl rfl rfl (by kernel_rfl) (by kernel_rfl) (by kernel_rfl) (by kernel_rfl) hS0 (fun u hu => by go_simp) ?_
  simp only [Act.put, List.getElem_toArray, List.getElem_cons_zero, List.getElem_cons_succ, List.setIfInBounds_toArray, List.set_cons_zero, List.set_cons_succ]
  refine TillZ.take (i := 5) (v := .string q7) rfl rfl rfl (by kernel_rfl) (by kernel_rfl) (by kernel_rfl) (by kernel_rfl) hS0 (fun u hu => by have z := (HX3.out u hu).cell 0 _ rfl; go_simp) ?_
  simp only [Act.put, List.getElem_toArray, List.getElem_cons_zero, List.getElem_cons_succ, List.setIfInBounds_toArray, List.set_cons_zero, List.set_cons_succ]
  refine TillZ.take (i := 6) (v := .agg #[.string q7, .int .i64 q8, .string q9]) rfl rfl rfl (by kernel_rfl) (by kernel_rfl) (by kernel_rfl) (by kernel_rfl) hS0 (fun u hu => by have z0 := (HX3.out u hu).cell 0 _ rfl; have z1 := (HX3.out u hu).cell 1 _ rfl; have z2 := (HX3.out u hu).cell 2 _ rfl; go_simp) ?_
  simp only [Act.put, List.getElem_toArray, List.getElem_cons_zero, List.getElem_cons_succ, List.setIfInBounds_toArray, List.set_cons_zero, List.set_cons_succ]
  obtain ⟨w4, hrun, hown, hgr⟩ := World.ownsMap.update (HD3.out _ hS0).map keyS Tryz.underlying200 (by unfold maxLen; omega) (imKey_of hq) (show imR (.agg #[.string q7, .int .i64 q8, .string q9]) = some (imDat ⟨q7, q8, q9⟩, []) from rfl)
  have HO := Lib.hid hown
  have HT := Lib.hid hgr
  have HDD := Lib.hid (HD3.out _ hS0)
  have HBD := Lib.hid (HBB2.out.drew)
  clear hown hgr
  refine TillZ.hand_skip (w' := w4) (by kernel_rfl) rfl rfl (by go_simp) ?_
  simp only [Act.put, List.getElem_toArray, List.getElem_cons_zero, List.getElem_cons_succ, List.setIfInBounds_toArray, List.set_cons_zero, List.set_cons_succ]
  refine TillZ.any_done (by kernel_rfl) ?_ _
  go_wp2_with fail
  go_ret
  exact ⟨rfl, HDD.out.mapped HT.out (by rw [mapI_put (x := ⟨q7, q8, q9⟩) HB2.out.rise]; exact HO.out) (gen_rise (.inr ⟨_, rfl, rfl⟩) HB2.out.rise), HBD.out.grown HT.out HBV3.out (fun q hq => by have := HB2.out.hM; simp at hq; omega)⟩
theorem far_of {w : World} {base B M n nn : Nat} {v : Value} {ts : List Tm} {x : Int} {D : DataW Unit} (hr : w.ownsRow base 106 tmE.k v n (tmE.flat ts)) (h0 : 0 < n) (hb : w.cell? ⟨B, 1, none⟩ = some (.int .i64 x)) (hm : w.ownsMap Tryz.prog 9 imR M nn D) : ∀ q, v.ownBlock = some q → q ≠ B ∧ q ≠ M := by
  intro q hq
  rcases hr.2 with ⟨rfl, h⟩ | ⟨g, cap, cur, rfl, _, hg, _⟩
  · omega
  · have hgq : g = q := by simpa [Value.ownBlock] using hq
    subst hgq
    obtain ⟨g', o', hge, _, _, t1⟩ := TmR.at (TmR.own hr) h0
    simp only [Option.some.injEq, Addr.mk.injEq, and_true] at hge
    obtain ⟨rfl, rfl⟩ := hge
    refine ⟨fun e => ?_, fun e => ?_⟩
    · subst e
      simp only [Nat.zero_mul, Nat.zero_add] at t1
      rw [hb] at t1
      cases t1
    · subst e
      obtain ⟨es, clock, h1, _⟩ := hm
      rw [h1] at hg
      cases hg
set_option maxRecDepth 100000 in
set_option maxHeartbeats 1600000 in
theorem termDo_none (q5 : Int) (q6 : ByteArray) {w : World} {base B M : Nat} {v : Value} {b : Bk} (h : Dr w base B M v b) (hbs : base ≤ w.heap.size) (ht : b.ts.length ≤ 5) (hn : (b.ts.length : Int) + 1 < q5) :
    Calls Tryz.prog 226 #[.agg #[.int .i64 q5, .string q6], .pointer (some ⟨B, 0, none⟩)] w fun e w' => e = .returned (.int .i64 6) ∧ Below base w w' := by
  have HX : Hid (BoxC (w.alloc (.cells #[.int .i64 q5, .string q6] 229)) w.heap.size [.int .i64 q5, .string q6]) := Lib.hid (BoxC.made _ _ _)
  have HLT : Hid (∀ q, v.ownBlock = some q → q < w.heap.size) := Lib.hid (fun q hq => (h.row.lt q hq).2)
  have HB1 : Hid (Dr (w.alloc (.cells #[.int .i64 q5, .string q6] 229)) base B M v b) := Lib.hid (h.below ((Below.refl _ _).alloc (Nat.le_refl _) _))
  have HBB : Hid (Below base w (w.alloc (.cells #[.int .i64 q5, .string q6] 229))) := Lib.hid ((Below.refl _ _).alloc hbs _)
  have HBS := Lib.hid hbs
  clear h
  obtain ⟨va, vc, rfl⟩ := own_shape HB1.out.row
  obtain ⟨V, hV⟩ : ∃ V, V = w.alloc (.cells #[.int .i64 q5, .string q6] 229) := ⟨_, rfl⟩
  rw [← hV] at HX HB1 HBB
  have HBV := Lib.hid (show base ≤ V.heap.size from Nat.le_trans HBS.out HBB.out.size)
  have x4 := HB1.out.box.cell 4 _ rfl
  have f4 := HB1.out.box.free 4
  have d0 := HX.out.cell 0 _ rfl
  have d1 := HX.out.cell 1 _ rfl
  have hw : IntKind.i64.wrap (b.ts.length : Int) = (b.ts.length : Int) := IntWalk.i64_in _ (by omega)
  have hw1 : IntKind.i64.wrap ((b.ts.length : Int) + 1) = (b.ts.length : Int) + 1 := IntWalk.i64_in _ (by omega)
  go_enter Tryz.func226, Tryz.ntmps226
  go_upto_region 1 with fail
  rw [← hV]
  clear hV
  go_wp2_with fail
  go_ret
  exact ⟨rfl, HBB.out⟩
set_option maxRecDepth 100000 in
set_option maxHeartbeats 1600000 in
theorem termDo_next (q5 : Int) (q6 : ByteArray) {w : World} {base B M : Nat} {v : Value} {b : Bk} (h : Dr w base B M v b) (hbs : base ≤ w.heap.size) (ht : b.ts.length ≤ 5) (hn : q5 = (b.ts.length : Int) + 1) :
    Calls Tryz.prog 226 #[.agg #[.int .i64 q5, .string q6], .pointer (some ⟨B, 0, none⟩)] w fun e w' => e = .returned (.int .i64 0) ∧ ∃ v', Dr w' base B M v' ⟨b.c0, b.c1, b.c2, b.c3, b.ts ++ [⟨q5, q6⟩], b.is⟩ ∧ Below base w w' := by
  have HX : Hid (BoxC (w.alloc (.cells #[.int .i64 q5, .string q6] 229)) w.heap.size [.int .i64 q5, .string q6]) := Lib.hid (BoxC.made _ _ _)
  have HLT : Hid (∀ q, v.ownBlock = some q → q < w.heap.size) := Lib.hid (fun q hq => (h.row.lt q hq).2)
  have HB1 : Hid (Dr (w.alloc (.cells #[.int .i64 q5, .string q6] 229)) base B M v b) := Lib.hid (h.below ((Below.refl _ _).alloc (Nat.le_refl _) _))
  have HBB : Hid (Below base w (w.alloc (.cells #[.int .i64 q5, .string q6] 229))) := Lib.hid ((Below.refl _ _).alloc hbs _)
  have HBS := Lib.hid hbs
  clear h
  have HN := Lib.hid hn
  clear hn
  obtain ⟨va, vc, rfl⟩ := own_shape HB1.out.row
  obtain ⟨V, hV⟩ : ∃ V, V = w.alloc (.cells #[.int .i64 q5, .string q6] 229) := ⟨_, rfl⟩
  rw [← hV] at HX HB1 HBB
  have HBV := Lib.hid (show base ≤ V.heap.size from Nat.le_trans HBS.out HBB.out.size)
  have x4 := HB1.out.box.cell 4 _ rfl
  have f4 := HB1.out.box.free 4
  have d0 := HX.out.cell 0 _ rfl
  have d1 := HX.out.cell 1 _ rfl
  have hw : IntKind.i64.wrap (b.ts.length : Int) = (b.ts.length : Int) := IntWalk.i64_in _ (by omega)
  have hw1 : IntKind.i64.wrap ((b.ts.length : Int) + 1) = (b.ts.length : Int) + 1 := IntWalk.i64_in _ (by omega)
  go_enter Tryz.func226, Tryz.ntmps226
  go_upto_region 1 with fail
  rw [← hV]
  clear hV
  have hmx : Tryz.prog.follows .mixedOrders = true := by kernel_rfl
  have h1 : ¬ (b.ts.length : Int) + 1 < q5 := by have := HN.out; omega
  have h2 : (q5 == (b.ts.length : Int) + 1) = true := by rw [HN.out]; simp
  go_wp2_with fail
  obtain ⟨i1, hi1, hz1, hs1, hy1⟩ := info_parts infoTerm
  clear x4 f4 d0 d1
  refine TillZ.region (t := 10) hmx (fun u => BoxC u B [.int .i64 b.c0, .int .i64 b.c1, .int .i64 b.c2, .int .i64 b.c3, .slice va b.ts.length vc, .map (some M)] ∧ BoxC u w.heap.size [.int .i64 q5, .string q6]) ?_
  have hS0 := And.intro HB1.out.box.drew HX.out.drew
  refine TillZ.take (i := 0) (v := .pointer (some ⟨B, 0, none⟩)) rfl rfl rfl (by kernel_rfl) (by kernel_rfl) (by kernel_rfl) (by kernel_rfl) hS0 (fun u hu => by go_simp) ?_
  simp only [Act.put, List.getElem_toArray, List.getElem_cons_zero, List.getElem_cons_succ, List.setIfInBounds_toArray, List.set_cons_zero, List.set_cons_succ]
  refine TillZ.take (i := 1) (v := .pointer (some ⟨B, 0, none⟩)) rfl rfl rfl (by kernel_rfl) (by kernel_rfl) (by kernel_rfl) (by kernel_rfl) hS0 (fun u hu => by go_simp) ?_
  simp only [Act.put, List.getElem_toArray, List.getElem_cons_zero, List.getElem_cons_succ, List.setIfInBounds_toArray, List.set_cons_zero, List.set_cons_succ]
  refine TillZ.take (i := 2) (v := .pointer (some ⟨B, 0, none⟩)) rfl rfl rfl (by kernel_rfl) (by kernel_rfl) (by kernel_rfl) (by kernel_rfl) hS0 (fun u hu => by go_simp) ?_
  simp only [Act.put, List.getElem_toArray, List.getElem_cons_zero, List.getElem_cons_succ, List.setIfInBounds_toArray, List.set_cons_zero, List.set_cons_succ]
  refine TillZ.take (i := 3) (v := .pointer (some ⟨B, 4, none⟩)) rfl rfl rfl (by kernel_rfl) (by kernel_rfl) (by kernel_rfl) (by kernel_rfl) hS0 (fun u hu => by go_simp) ?_
  simp only [Act.put, List.getElem_toArray, List.getElem_cons_zero, List.getElem_cons_succ, List.setIfInBounds_toArray, List.set_cons_zero, List.set_cons_succ]
  refine TillZ.take (i := 4) (v := .slice va b.ts.length vc) rfl rfl rfl (by kernel_rfl) (by kernel_rfl) (by kernel_rfl) (by kernel_rfl) hS0 (fun u hu => by have z := hu.1.cell 4 _ rfl; go_simp) ?_
  simp only [Act.put, List.getElem_toArray, List.getElem_cons_zero, List.getElem_cons_succ, List.setIfInBounds_toArray, List.set_cons_zero, List.set_cons_succ]
  refine TillZ.take (i := 5) (v := .agg #[.int .i64 q5, .string q6]) rfl rfl rfl (by kernel_rfl) (by kernel_rfl) (by kernel_rfl) (by kernel_rfl) hS0 (fun u hu => by have z0 := hu.2.cell 0 _ rfl; have z1 := hu.2.cell 1 _ rfl; go_simp) ?_
  simp only [Act.put, List.getElem_toArray, List.getElem_cons_zero, List.getElem_cons_succ, List.setIfInBounds_toArray, List.set_cons_zero, List.set_cons_succ]
  refine TillZ.one (i := 6) (by kernel_rfl) ?_
  refine TillZ.opz (i := 6) (v := .slice (some ⟨V.heap.size, 0, none⟩) 1 1) (w' := V.drew.alloc (.cells #[.int .i64 q5, .string q6] 106)) rfl rfl rfl (by go_simp) ⟨hS0.1.alloc _, hS0.2.alloc _⟩ ?_
  simp only [Act.put, List.getElem_toArray, List.getElem_cons_zero, List.getElem_cons_succ, List.setIfInBounds_toArray, List.set_cons_zero, List.set_cons_succ]
  have hS1 := And.intro (hS0.1.alloc (.cells #[.int .i64 q5, .string q6] 106)) (hS0.2.alloc (.cells #[.int .i64 q5, .string q6] 106))
  have hO := World.ownsRow.alloc (World.ownsRow.drew HB1.out.row) (.cells #[.int .i64 q5, .string q6] 106)
  have hL : SR tmE tmD (V.drew.alloc (.cells #[.int .i64 q5, .string q6] 106)) (some ⟨V.heap.size, 0, none⟩) 1 1 [⟨q5, q6⟩] := SR.own (by decide) (World.ownsRow_lit V.drew #[.int .i64 q5, .string q6] 1 (Nat.le_refl _) (by decide) rfl)
  have HB9 := Lib.hid ((HBB.out.drew).alloc HBV.out (.cells #[.int .i64 q5, .string q6] 106))
  have HB9S := Lib.hid (Nat.le_trans HBS.out HB9.out.size)
  have hM9 := World.ownsMap.alloc (World.ownsMap.drew HB1.out.map) (.cells #[.int .i64 q5, .string q6] 106)
  refine TillZ.one (i := 7) (by kernel_rfl) ?_
  refine append_opz tmE tmD (i := 7) (.tmp 24) (.tmp 26) 29 rfl rfl rfl rfl 106 i1 _ 24 Tryz.underlying29 hi1 hz1 hs1 hy1 rfl (by decide) (by decide) base _ b.ts.length b.ts rfl hO _ 1 1 [⟨q5, q6⟩] rfl hL HB9S.out (by omega) (by omega) (fun v2 u2 O2 G2 => ?_)
  simp only [Act.put, List.getElem_toArray, List.getElem_cons_zero, List.getElem_cons_succ, List.setIfInBounds_toArray, List.set_cons_zero, List.set_cons_succ]
  have hb2 := hS1.1.grown G2 (fun e => (HB1.out.far B e.symm).1 rfl)
  have hx2 := hS1.2.grown G2 (fun e => Nat.lt_irrefl _ (HLT.out _ e.symm))
  have hm2 := hM9.kept G2 (fun e => (HB1.out.far M e.symm).2 rfl)
  have HB10 : Hid (Below base w u2) := Lib.hid (HB9.out.grown G2 HB9S.out (fun q hq => (hO.lt q hq).1))
  have hfar := far_of O2 (by omega) (hb2.cell 1 _ rfl) hm2
  obtain ⟨a2, c2, rfl⟩ := own_shape O2
  refine ⟨⟨hb2, hx2⟩, ?_⟩
  have x4 := hb2.cell 4 _ rfl
  have f4 := hb2.free 4
  have HDN : Hid (Dr (u2.setCell ⟨B, 4, none⟩ (.slice a2 (b.ts.length + 1) c2)) base B M (.slice a2 (b.ts.length + 1) c2) ⟨b.c0, b.c1, b.c2, b.c3, b.ts ++ [⟨q5, q6⟩], b.is⟩) := Lib.hid
    ⟨hb2.set (j := 4) (by simp) _, by have h3 := own_other O2 (b := B) (fun q hq => (hfar q hq).1) ⟨B, 4, none⟩ (.slice a2 (b.ts.length + 1) c2) rfl; simpa using h3, hfar, HB1.out.hB, HB1.out.hM, HB1.out.ne, hm2.setCell (a := ⟨B, 4, none⟩) HB1.out.ne _, HB1.out.rise⟩
  refine TillZ.value (i := 8) (v := .pointer (some ⟨B, 0, none⟩)) (by kernel_rfl) rfl rfl rfl (by go_simp) ⟨hb2, hx2⟩ ?_
  simp only [Act.put, List.getElem_toArray, List.getElem_cons_zero, List.getElem_cons_succ, List.setIfInBounds_toArray, List.set_cons_zero, List.set_cons_succ]
  refine TillZ.value (i := 9) (v := .pointer (some ⟨B, 4, none⟩)) (by kernel_rfl) rfl rfl rfl (by go_simp) ⟨hb2, hx2⟩ ?_
  simp only [Act.put, List.getElem_toArray, List.getElem_cons_zero, List.getElem_cons_succ, List.setIfInBounds_toArray, List.set_cons_zero, List.set_cons_succ]
  clear hb2 hx2 hm2 hfar O2 G2 hO hL hM9 hS1 hS0
  refine TillZ.hand_skip (w' := u2.setCell ⟨B, 4, none⟩ (.slice a2 (b.ts.length + 1) c2)) (by kernel_rfl) rfl rfl (by go_simp) ?_
  simp only [Act.put, List.getElem_toArray, List.getElem_cons_zero, List.getElem_cons_succ, List.setIfInBounds_toArray, List.set_cons_zero, List.set_cons_succ]
  refine TillZ.any_done (by kernel_rfl) ?_ _
  clear x4 f4
  go_wp2_with fail
  go_ret
  exact ⟨rfl, _, HDN.out, HB10.out.setCell (p := ⟨B, 4, none⟩) HB1.out.hB _⟩
set_option maxRecDepth 100000 in
set_option maxHeartbeats 1600000 in
theorem termDo_old (q5 : Int) (q6 : ByteArray) {w : World} {base B M : Nat} {v : Value} {b : Bk} (h : Dr w base B M v b) (hbs : base ≤ w.heap.size) (ht : b.ts.length ≤ 5) (i : Nat) (hi : (i : Int) = q5 - 1) (hil : i < b.ts.length) :
    Calls Tryz.prog 226 #[.agg #[.int .i64 q5, .string q6], .pointer (some ⟨B, 0, none⟩)] w fun e w' => e = .returned (.int .i64 0) ∧ Dr w' base B M v ⟨b.c0, b.c1, b.c2, b.c3, b.ts.set i ⟨q5, q6⟩, b.is⟩ ∧ Below base w w' := by
  have HX : Hid (BoxC (w.alloc (.cells #[.int .i64 q5, .string q6] 229)) w.heap.size [.int .i64 q5, .string q6]) := Lib.hid (BoxC.made _ _ _)
  have HLT : Hid (∀ q, v.ownBlock = some q → q < w.heap.size) := Lib.hid (fun q hq => (h.row.lt q hq).2)
  have HB1 : Hid (Dr (w.alloc (.cells #[.int .i64 q5, .string q6] 229)) base B M v b) := Lib.hid (h.below ((Below.refl _ _).alloc (Nat.le_refl _) _))
  have HBB : Hid (Below base w (w.alloc (.cells #[.int .i64 q5, .string q6] 229))) := Lib.hid ((Below.refl _ _).alloc hbs _)
  have HBS := Lib.hid hbs
  clear h
  obtain ⟨va, vc, rfl⟩ := own_shape HB1.out.row
  obtain ⟨V, hV⟩ : ∃ V, V = w.alloc (.cells #[.int .i64 q5, .string q6] 229) := ⟨_, rfl⟩
  rw [← hV] at HX HB1 HBB
  have HBV := Lib.hid (show base ≤ V.heap.size from Nat.le_trans HBS.out HBB.out.size)
  have x4 := HB1.out.box.cell 4 _ rfl
  have f4 := HB1.out.box.free 4
  have d0 := HX.out.cell 0 _ rfl
  have d1 := HX.out.cell 1 _ rfl
  have hw : IntKind.i64.wrap (b.ts.length : Int) = (b.ts.length : Int) := IntWalk.i64_in _ (by omega)
  have hw1 : IntKind.i64.wrap ((b.ts.length : Int) + 1) = (b.ts.length : Int) + 1 := IntWalk.i64_in _ (by omega)
  go_enter Tryz.func226, Tryz.ntmps226
  go_upto_region 1 with fail
  rw [← hV]
  clear hV
  have hmx : Tryz.prog.follows .mixedOrders = true := by kernel_rfl
  have h2 : (q5 == (b.ts.length : Int) + 1) = false := by rw [beq_eq_false_iff_ne]; omega
  have h3 : ¬ (b.ts.length : Int) + 1 < q5 := by omega
  have hin : 0 ≤ (i : Int) ∧ (i : Int) < (b.ts.length : Int) := by omega
  have hsub : IntKind.i64.wrap (q5 - 1) = (i : Int) := by rw [IntWalk.i64_in _ (by omega)]; omega
  obtain ⟨g, rfl⟩ : ∃ g, va = some ⟨g, 0, none⟩ := by
    rcases HB1.out.row.2 with ⟨_, h0⟩ | ⟨g, cap, cur, hv, _⟩
    · omega
    · simp only [Value.slice.injEq] at hv; exact ⟨g, hv.1⟩
  clear hi
  go_wp2_with fail
  clear x4 f4 d0 d1
  have hrow := World.ownsRow.drew HB1.out.row
  obtain ⟨g', o', hge, _, t0, t1⟩ := TmR.at (TmR.own HB1.out.row) hil
  simp only [Option.some.injEq, Addr.mk.injEq, and_true] at hge
  obtain ⟨rfl, rfl⟩ := hge
  rw [Nat.zero_add] at t0 t1
  have k0 := HB1.out.row.frozenAt (i * 2)
  have k1 := HB1.out.row.frozenAt (i * 2 + 1)
  have hst := TmR.stored hrow hil q5 q6
  have HST := Lib.hid hst.1
  have HGG := Lib.hid hst.2
  have HFG := Lib.hid (HB1.out.far g rfl)
  have HBG := Lib.hid ((HB1.out.row.lt g rfl).1)
  clear hst hrow
  refine TillZ.region (t := 9) hmx (fun u => BoxC u B [.int .i64 b.c0, .int .i64 b.c1, .int .i64 b.c2, .int .i64 b.c3, .slice (some ⟨g, 0, none⟩) b.ts.length vc, .map (some M)] ∧ BoxC u w.heap.size [.int .i64 q5, .string q6]) ?_
  have hS0 := And.intro HB1.out.box.drew HX.out.drew
  refine TillZ.take (i := 0) (v := .pointer (some ⟨B, 0, none⟩)) rfl rfl rfl (by kernel_rfl) (by kernel_rfl) (by kernel_rfl) (by kernel_rfl) hS0 (fun u hu => by go_simp) ?_
  simp only [Act.put, List.getElem_toArray, List.getElem_cons_zero, List.getElem_cons_succ, List.setIfInBounds_toArray, List.set_cons_zero, List.set_cons_succ]
  refine TillZ.take (i := 1) (v := .pointer (some ⟨B, 0, none⟩)) rfl rfl rfl (by kernel_rfl) (by kernel_rfl) (by kernel_rfl) (by kernel_rfl) hS0 (fun u hu => by go_simp) ?_
  simp only [Act.put, List.getElem_toArray, List.getElem_cons_zero, List.getElem_cons_succ, List.setIfInBounds_toArray, List.set_cons_zero, List.set_cons_succ]
  refine TillZ.take (i := 2) (v := .pointer (some ⟨B, 4, none⟩)) rfl rfl rfl (by kernel_rfl) (by kernel_rfl) (by kernel_rfl) (by kernel_rfl) hS0 (fun u hu => by go_simp) ?_
  simp only [Act.put, List.getElem_toArray, List.getElem_cons_zero, List.getElem_cons_succ, List.setIfInBounds_toArray, List.set_cons_zero, List.set_cons_succ]
  refine TillZ.take (i := 3) (v := .slice (some ⟨g, 0, none⟩) b.ts.length vc) rfl rfl rfl (by kernel_rfl) (by kernel_rfl) (by kernel_rfl) (by kernel_rfl) hS0 (fun u hu => by have z := hu.1.cell 4 _ rfl; go_simp) ?_
  simp only [Act.put, List.getElem_toArray, List.getElem_cons_zero, List.getElem_cons_succ, List.setIfInBounds_toArray, List.set_cons_zero, List.set_cons_succ]
  refine TillZ.take (i := 4) (v := .pointer (some ⟨w.heap.size, 0, none⟩)) rfl rfl rfl (by kernel_rfl) (by kernel_rfl) (by kernel_rfl) (by kernel_rfl) hS0 (fun u hu => by go_simp) ?_
  simp only [Act.put, List.getElem_toArray, List.getElem_cons_zero, List.getElem_cons_succ, List.setIfInBounds_toArray, List.set_cons_zero, List.set_cons_succ]
  refine TillZ.take (i := 5) (v := .int .i64 q5) rfl rfl rfl (by kernel_rfl) (by kernel_rfl) (by kernel_rfl) (by kernel_rfl) hS0 (fun u hu => by have z0 := hu.2.cell 0 _ rfl; go_simp) ?_
  simp only [Act.put, List.getElem_toArray, List.getElem_cons_zero, List.getElem_cons_succ, List.setIfInBounds_toArray, List.set_cons_zero, List.set_cons_succ]
  refine TillZ.take (i := 6) (v := .int .i64 (i : Int)) rfl rfl rfl (by kernel_rfl) (by kernel_rfl) (by kernel_rfl) (by kernel_rfl) hS0 (fun u hu => by go_simp) ?_
  simp only [Act.put, List.getElem_toArray, List.getElem_cons_zero, List.getElem_cons_succ, List.setIfInBounds_toArray, List.set_cons_zero, List.set_cons_succ]
  refine TillZ.take (i := 7) (v := .agg #[.int .i64 q5, .string q6]) rfl rfl rfl (by kernel_rfl) (by kernel_rfl) (by kernel_rfl) (by kernel_rfl) hS0 (fun u hu => by have z0 := hu.2.cell 0 _ rfl; have z1 := hu.2.cell 1 _ rfl; go_simp) ?_
  simp only [Act.put, List.getElem_toArray, List.getElem_cons_zero, List.getElem_cons_succ, List.setIfInBounds_toArray, List.set_cons_zero, List.set_cons_succ]
  refine TillZ.take (i := 8) (v := .pointer (some ⟨g, i * 2, none⟩)) rfl rfl rfl (by kernel_rfl) (by kernel_rfl) (by kernel_rfl) (by kernel_rfl) hS0 (fun u hu => by go_simp) ?_
  simp only [Act.put, List.getElem_toArray, List.getElem_cons_zero, List.getElem_cons_succ, List.setIfInBounds_toArray, List.set_cons_zero, List.set_cons_succ]
  refine TillZ.hand_skip (w' := (V.drew.setCell ⟨g, i * 2, none⟩ (.int .i64 q5)).setCell ⟨g, i * 2 + 1, none⟩ (.string q6)) (by kernel_rfl) rfl rfl (by go_simp) ?_
  simp only [Act.put, List.getElem_toArray, List.getElem_cons_zero, List.getElem_cons_succ, List.setIfInBounds_toArray, List.set_cons_zero, List.set_cons_succ]
  refine TillZ.any_done (by kernel_rfl) ?_ _
  clear hS0 t0 t1 k0 k1
  go_wp2_with fail
  go_ret
  exact ⟨rfl, ⟨(HB1.out.box.drew.other ⟨g, i * 2, none⟩ _ HFG.out.1).other ⟨g, i * 2 + 1, none⟩ _ HFG.out.1, by have h3 := HST.out; simpa using h3, HB1.out.far, HB1.out.hB, HB1.out.hM, HB1.out.ne, ((World.ownsMap.drew HB1.out.map).setCell (a := ⟨g, i * 2, none⟩) (fun e => HFG.out.2 e.symm) _).setCell (a := ⟨g, i * 2 + 1, none⟩) (fun e => HFG.out.2 e.symm) _, HB1.out.rise⟩, (HBB.out.drew.setCell (p := ⟨g, i * 2, none⟩) HBG.out _).setCell (p := ⟨g, i * 2 + 1, none⟩) HBG.out _⟩
end Go.Proofs.YtidcpdfhnhfelaaGreatDoor

/- A deed done to a draft. -/
namespace Go.Proofs.YtidcpdfhnhfelaaGreatDoor
open Go.RowKit Go.PlainAid G IRow
set_option linter.unusedVariables false
def zeroK (b : Bk) : Bool := zeroB b.c0 b.c1 b.c2 b.c3 b.ts.length b.is.length
/-- What a deed makes of a book, and its code. -/
def doS (b : Bk) (d : Dd) : Bk × Int :=
  if d.kd = 1 then (⟨d.gn, d.nd, d.mn, d.ck, if zeroK b = true then [⟨1, ⟨#[120]⟩⟩] else b.ts, b.is⟩, 0)
  else if zeroK b = true then (bk0, 10)
  else if d.kd = 2 then (if (b.ts.length : Int) + 1 < d.no then (bk0, 6) else if d.no = (b.ts.length : Int) + 1 then (⟨b.c0, b.c1, b.c2, b.c3, b.ts ++ [⟨d.no, d.lk⟩], b.is⟩, 0) else (⟨b.c0, b.c1, b.c2, b.c3, b.ts.set (d.no.toNat - 1) ⟨d.no, d.lk⟩, b.is⟩, 0))
  else itemsR b d
theorem neq_conf (g n m c : Int) (W : World) : (binOp .neq 28 (.agg #[.int .i64 g, .int .i64 n, .int .i64 m, .int .i64 c]) (.agg #[.int .i64 0, .int .i64 0, .int .i64 0, .int .i64 0])).run Tryz.prog W = .ok (.bool (!(decide (g = 0 ∧ n = 0 ∧ m = 0 ∧ c = 0)))) W := by
  by_cases h1 : g = 0 <;> by_cases h2 : n = 0 <;> by_cases h3 : m = 0 <;> by_cases h4 : c = 0 <;> simp [go_sem, h1, h2, h3, h4]
theorem nil_do1 (a b c d : Int) (w : World) : (nilAhead 390 206 (.agg #[.int .i64 a, .int .i64 b, .int .i64 c, .int .i64 d]) "loop.example/g00839/impl.do").run Tryz.prog w = .ok (some false) w := by kernel_rfl
theorem met_do1 (a b c d : Int) (w : World) : (method 390 206 (.agg #[.int .i64 a, .int .i64 b, .int .i64 c, .int .i64 d]) "loop.example/g00839/impl.do").run Tryz.prog w = .ok (210, .agg #[.int .i64 a, .int .i64 b, .int .i64 c, .int .i64 d]) w := by kernel_rfl
theorem nil_do2 (a : Int) (b : ByteArray) (w : World) : (nilAhead 390 229 (.agg #[.int .i64 a, .string b]) "loop.example/g00839/impl.do").run Tryz.prog w = .ok (some false) w := by kernel_rfl
theorem met_do2 (a : Int) (b : ByteArray) (w : World) : (method 390 229 (.agg #[.int .i64 a, .string b]) "loop.example/g00839/impl.do").run Tryz.prog w = .ok (226, .agg #[.int .i64 a, .string b]) w := by kernel_rfl
theorem nil_do3 (a : ByteArray) (b : Int) (c : ByteArray) (w : World) : (nilAhead 390 230 (.agg #[.string a, .int .i64 b, .string c]) "loop.example/g00839/impl.do").run Tryz.prog w = .ok (some false) w := by kernel_rfl
theorem met_do3 (a : ByteArray) (b : Int) (c : ByteArray) (w : World) : (method 390 230 (.agg #[.string a, .int .i64 b, .string c]) "loop.example/g00839/impl.do").run Tryz.prog w = .ok (231, .agg #[.string a, .int .i64 b, .string c]) w := by kernel_rfl
theorem nil_do4 (a : ByteArray) (w : World) : (nilAhead 390 231 (.string a) "loop.example/g00839/impl.do").run Tryz.prog w = .ok (some false) w := by kernel_rfl
theorem met_do4 (a : ByteArray) (w : World) : (method 390 231 (.string a) "loop.example/g00839/impl.do").run Tryz.prog w = .ok (238, .string a) w := by kernel_rfl
theorem deedB_cases {q0 q1 q2 q3 q4 q5 : Int} {q6 q7 : ByteArray} {q8 : Int} {q9 : ByteArray} (h : deedB q0 q1 q2 q3 q4 q5 q6 q7 q8 q9 = true) : (q0 = 1 ∧ (1 ≤ q1 ∧ q1 ≤ 999) ∧ (1 ≤ q2 ∧ q2 ≤ 10) ∧ (q2 ≤ q3 ∧ q3 ≤ 20) ∧ (0 ≤ q4 ∧ q4 ≤ 4294967295)) ∨ (q0 = 2 ∧ (1 ≤ q5 ∧ q5 ≤ 5) ∧ (1 ≤ q6.size ∧ q6.size ≤ 16)) ∨ (q0 = 3 ∧ (1 ≤ q7.size ∧ q7.size ≤ 8) ∧ (1 ≤ q8 ∧ q8 ≤ 5) ∧ (1 ≤ q9.size ∧ q9.size ≤ 20)) ∨ (q0 = 4 ∧ (1 ≤ q7.size ∧ q7.size ≤ 8)) := by
  unfold deedB at h
  by_cases k1 : q0 = 1
  · rw [if_pos k1] at h
    simp only [Bool.and_eq_true] at h
    exact .inl ⟨k1, confB_iff.1 h.1.1⟩
  · rw [if_neg k1] at h
    by_cases k2 : q0 = 2
    · rw [if_pos k2] at h
      simp only [Bool.and_eq_true] at h
      exact .inr (.inl ⟨k2, termB_iff.1 h.1.2⟩)
    · rw [if_neg k2] at h
      by_cases k3 : q0 = 3
      · rw [if_pos k3] at h
        simp only [Bool.and_eq_true] at h
        obtain ⟨h1, h2, h3⟩ := itemB_iff.1 h.2
        exact .inr (.inr (.inl ⟨k3, wordB_size h1, h2, h3⟩))
      · rw [if_neg k3] at h
        by_cases k4 : q0 = 4
        · rw [if_pos k4] at h
          simp only [Bool.and_eq_true] at h
          exact .inr (.inr (.inr ⟨k4, wordB_size h.2⟩))
        · rw [if_neg k4] at h
          cases h
/-- What comes of a right deed behind its interface: what it does to a draft that is not zero. -/
theorem deed_do {q0 q1 q2 q3 q4 q5 : Int} {q6 q7 : ByteArray} {q8 : Int} {q9 : ByteArray} {base B M : Nat} {v : Value} {b : Bk} (hB : deedB q0 q1 q2 q3 q4 q5 q6 q7 q8 q9 = true) (hz : zeroK b = false) (ht : b.ts.length ≤ 5) (hi : b.is.length ≤ 8) :
    ∃ (T : TypeId) (x : Value) (F : FuncId), (∀ u, Calls Tryz.prog 139 #[.agg #[.int .i64 q0, .int .i64 q1, .int .i64 q2, .int .i64 q3, .int .i64 q4, .int .i64 q5, .string q6, .string q7, .int .i64 q8, .string q9]] u fun e w' => e = .returned (.iface T x) ∧ Below u.heap.size u w') ∧
      (∀ u, (nilAhead 390 T x "loop.example/g00839/impl.do").run Tryz.prog u = .ok (some false) u) ∧ (∀ u, (method 390 T x "loop.example/g00839/impl.do").run Tryz.prog u = .ok (F, x) u) ∧ (∀ u y, (callFunc F #[x, y]).run Tryz.prog u = .ok (.enter F #[x, y]) u) ∧
      (∀ u, Dr u base B M v b → base ≤ u.heap.size → Calls Tryz.prog F #[x, .pointer (some ⟨B, 0, none⟩)] u fun e w' => e = .returned (.int .i64 (doS b ⟨q0, q1, q2, q3, q4, q5, q6, q7, q8, q9⟩).2) ∧ Below base u w' ∧ ((doS b ⟨q0, q1, q2, q3, q4, q5, q6, q7, q8, q9⟩).2 = 0 → ∃ v', Dr w' base B M v' (doS b ⟨q0, q1, q2, q3, q4, q5, q6, q7, q8, q9⟩).1)) := by
  rcases deedB_cases hB with ⟨rfl, _⟩ | ⟨rfl, h5, h6⟩ | ⟨rfl, h7, h8, h9⟩ | ⟨rfl, h7⟩
  · refine ⟨_, _, _, fun u => deedOf1_any 1 q1 q2 q3 q4 q5 q6 q7 q8 q9 rfl u, fun u => nil_do1 q1 q2 q3 q4 u, fun u => met_do1 q1 q2 q3 q4 u, fun u y => by kernel_rfl, fun u hD hs => (confDo_any q1 q2 q3 q4 hD hs).mono ?_⟩
    rintro e w' ⟨rfl, hD2, hb⟩
    have hd : doS b ⟨1, q1, q2, q3, q4, q5, q6, q7, q8, q9⟩ = (⟨q1, q2, q3, q4, b.ts, b.is⟩, 0) := by unfold doS; rw [if_pos rfl, hz]; rfl
    rw [hd]
    exact ⟨rfl, hb, fun _ => ⟨_, hD2⟩⟩
  · refine ⟨_, _, _, fun u => deedOf2_any 2 q1 q2 q3 q4 q5 q6 q7 q8 q9 rfl u, fun u => nil_do2 q5 q6 u, fun u => met_do2 q5 q6 u, fun u y => by kernel_rfl, fun u hD hs => ?_⟩
    have hd : doS b ⟨2, q1, q2, q3, q4, q5, q6, q7, q8, q9⟩ = (if (b.ts.length : Int) + 1 < q5 then (bk0, 6) else if q5 = (b.ts.length : Int) + 1 then (⟨b.c0, b.c1, b.c2, b.c3, b.ts ++ [⟨q5, q6⟩], b.is⟩, 0) else (⟨b.c0, b.c1, b.c2, b.c3, b.ts.set (q5.toNat - 1) ⟨q5, q6⟩, b.is⟩, 0)) := by
      unfold doS; dsimp only; rw [if_neg (by decide), hz, if_neg (by decide), if_pos rfl]
    rw [hd]
    by_cases c1 : (b.ts.length : Int) + 1 < q5
    · rw [if_pos c1]
      refine (termDo_none q5 q6 hD hs ht c1).mono ?_
      rintro e w' ⟨rfl, hb⟩
      exact ⟨rfl, hb, fun h => by cases h⟩
    · rw [if_neg c1]
      by_cases c2 : q5 = (b.ts.length : Int) + 1
      · rw [if_pos c2]
        refine (termDo_next q5 q6 hD hs ht c2).mono ?_
        rintro e w' ⟨rfl, v', hD2, hb⟩
        exact ⟨rfl, hb, fun _ => ⟨v', hD2⟩⟩
      · rw [if_neg c2]
        refine (termDo_old q5 q6 hD hs ht (q5.toNat - 1) (by omega) (by omega)).mono ?_
        rintro e w' ⟨rfl, hD2, hb⟩
        exact ⟨rfl, hb, fun _ => ⟨_, hD2⟩⟩
  · refine ⟨_, _, _, fun u => deedOf3_any 3 q1 q2 q3 q4 q5 q6 q7 q8 q9 rfl u, fun u => nil_do3 q7 q8 q9 u, fun u => met_do3 q7 q8 q9 u, fun u y => by kernel_rfl, fun u hD hs => ?_⟩
    have hd : doS b ⟨3, q1, q2, q3, q4, q5, q6, q7, q8, q9⟩ = itemsR b ⟨3, q1, q2, q3, q4, q5, q6, q7, q8, q9⟩ := by
      unfold doS; dsimp only; rw [if_neg (by decide), hz, if_neg (by decide), if_neg (by decide)]
    rw [hd]
    have hqm : q7.size ≤ maxLen := by unfold maxLen; omega
    unfold itemsR
    dsimp only
    by_cases c1 : (b.ts.length : Int) < q8
    · rw [if_pos ⟨rfl, c1⟩]
      refine (putDo_none q7 q8 q9 hD hs hqm ht hi c1).mono ?_
      rintro e w' ⟨rfl, hb⟩
      exact ⟨rfl, hb, fun h => by cases h⟩
    · rw [if_neg (fun h => c1 h.2)]
      have hit : itemsL b.is ⟨3, q1, q2, q3, q4, q5, q6, q7, q8, q9⟩ = genI [⟨q7, q8, q9⟩] q7 b.is := by rw [items_gen]; rfl
      cases c2 : hasI b.is q7
      · by_cases c3 : 8 ≤ b.is.length
        · rw [if_pos ⟨rfl, rfl, c3⟩]
          refine (putDo_full q7 q8 q9 hD hs hqm ht hi c1 c2 c3).mono ?_
          rintro e w' ⟨rfl, hb⟩
          exact ⟨rfl, hb, fun h => by cases h⟩
        · rw [if_neg (fun h => c3 h.2.2), if_neg (fun h => by have := h.1; omega), hit]
          refine (putDo_new q7 q8 q9 hD hs hqm ht hi c1 c2 c3).mono ?_
          rintro e w' ⟨rfl, hD2, hb⟩
          exact ⟨rfl, hb, fun _ => ⟨_, hD2⟩⟩
      · rw [if_neg (fun h => by cases h.2.1), if_neg (fun h => by have := h.1; omega), hit]
        refine (putDo_old q7 q8 q9 hD hs hqm ht hi c1 c2).mono ?_
        rintro e w' ⟨rfl, hD2, hb⟩
        exact ⟨rfl, hb, fun _ => ⟨_, hD2⟩⟩
  · refine ⟨_, _, _, fun u => deedOf4_any 4 q1 q2 q3 q4 q5 q6 q7 q8 q9 rfl u, fun u => nil_do4 q7 u, fun u => met_do4 q7 u, fun u y => by kernel_rfl, fun u hD hs => ?_⟩
    have hd : doS b ⟨4, q1, q2, q3, q4, q5, q6, q7, q8, q9⟩ = itemsR b ⟨4, q1, q2, q3, q4, q5, q6, q7, q8, q9⟩ := by
      unfold doS; dsimp only; rw [if_neg (by decide), hz, if_neg (by decide), if_neg (by decide)]
    rw [hd]
    have hqm : q7.size ≤ maxLen := by unfold maxLen; omega
    unfold itemsR
    dsimp only
    rw [if_neg (fun h => by have := h.1; omega), if_neg (fun h => by have := h.1; omega)]
    have hit : itemsL b.is ⟨4, q1, q2, q3, q4, q5, q6, q7, q8, q9⟩ = genI [] q7 b.is := by rw [items_gen]; rfl
    cases c2 : hasI b.is q7
    · rw [if_pos ⟨rfl, rfl⟩]
      refine (delDo_no q7 hD hs hqm c2).mono ?_
      rintro e w' ⟨rfl, hb⟩
      exact ⟨rfl, hb, fun h => by cases h⟩
    · rw [if_neg (fun h => by cases h.2), hit]
      refine (delDo_yes q7 hD hs hqm c2).mono ?_
      rintro e w' ⟨rfl, hD2, hb⟩
      exact ⟨rfl, hb, fun _ => ⟨_, hD2⟩⟩
set_option maxRecDepth 100000 in
set_option maxHeartbeats 1600000 in
theorem draftDo_any (q0 q1 q2 q3 q4 q5 : Int) (q6 q7 : ByteArray) (q8 : Int) (q9 : ByteArray) {w : World} {base B M : Nat} {v : Value} {b : Bk} (h : Dr w base B M v b) (hbs : base ≤ w.heap.size) (hB : deedB q0 q1 q2 q3 q4 q5 q6 q7 q8 q9 = true) (hzc : zeroK b = decide (b.c0 = 0 ∧ b.c1 = 0 ∧ b.c2 = 0 ∧ b.c3 = 0)) (ht : b.ts.length ≤ 5) (hi : b.is.length ≤ 8) :
    Calls Tryz.prog 119 #[.pointer (some ⟨B, 0, none⟩), .agg #[.int .i64 q0, .int .i64 q1, .int .i64 q2, .int .i64 q3, .int .i64 q4, .int .i64 q5, .string q6, .string q7, .int .i64 q8, .string q9]] w fun e w' => e = .returned (.int .i64 (doS b ⟨q0, q1, q2, q3, q4, q5, q6, q7, q8, q9⟩).2) ∧ Below base w w' ∧ ((doS b ⟨q0, q1, q2, q3, q4, q5, q6, q7, q8, q9⟩).2 = 0 → ∃ v', Dr w' base B M v' (doS b ⟨q0, q1, q2, q3, q4, q5, q6, q7, q8, q9⟩).1) := by
  obtain ⟨V, hV⟩ : ∃ V, V = w.alloc (.cells #[.int .i64 q0, .int .i64 q1, .int .i64 q2, .int .i64 q3, .int .i64 q4, .int .i64 q5, .string q6, .string q7, .int .i64 q8, .string q9] 110) := ⟨_, rfl⟩
  have HBB : Hid (Below base w V) := Lib.hid (by rw [hV]; exact (Below.refl _ _).alloc hbs _)
  have HX : Hid (BoxC V w.heap.size [.int .i64 q0, .int .i64 q1, .int .i64 q2, .int .i64 q3, .int .i64 q4, .int .i64 q5, .string q6, .string q7, .int .i64 q8, .string q9]) := Lib.hid (by rw [hV]; exact BoxC.made _ _ _)
  have HD : Hid (Dr V base B M v b) := Lib.hid (by rw [hV]; exact h.below ((Below.refl _ _).alloc (Nat.le_refl _) _))
  have HBV : Hid (base ≤ V.heap.size) := Lib.hid (Nat.le_trans hbs HBB.out.size)
  clear h
  have hne := neq_conf b.c0 b.c1 b.c2 b.c3
  rw [← hzc] at hne
  have x0 := HD.out.box.cell 0 _ rfl
  have x1 := HD.out.box.cell 1 _ rfl
  have x2 := HD.out.box.cell 2 _ rfl
  have x3 := HD.out.box.cell 3 _ rfl
  clear hzc
  go_enter Tryz.func119, Tryz.ntmps119
  go_upto_region 1 with fail
  rw [← hV]
  clear hV
  cases hz : zeroK b
  · rw [hz] at hne
    obtain ⟨T, x, F, hdo, hnl, hme, hcf, hF⟩ := deed_do (base := base) (B := B) (M := M) (v := v) hB hz ht hi
    have HDO := Lib.hid hdo
    have HF := Lib.hid hF
    clear hdo hF
    have d0 := HX.out.cell 0 _ rfl
    have d1 := HX.out.cell 1 _ rfl
    have d2 := HX.out.cell 2 _ rfl
    have d3 := HX.out.cell 3 _ rfl
    have d4 := HX.out.cell 4 _ rfl
    have d5 := HX.out.cell 5 _ rfl
    have d6 := HX.out.cell 6 _ rfl
    have d7 := HX.out.cell 7 _ rfl
    have d8 := HX.out.cell 8 _ rfl
    have d9 := HX.out.cell 9 _ rfl
    go_wp2_with fail
    refine (HDO.out _).mono ?_
    rintro e w1 ⟨rfl, hb⟩
    have HD1 := Lib.hid (HD.out.below hb)
    have HBB1 := Lib.hid (HBB.out.trans (hb.mono HBV.out))
    have HBV1 := Lib.hid (Nat.le_trans HBV.out hb.size)
    clear hb x0 x1 x2 x3 d0 d1 d2 d3 d4 d5 d6 d7 d8 d9
    go_wp2_with fail
    refine (HF.out _ HD1.out HBV1.out).mono ?_
    rintro e w2 ⟨rfl, hp⟩
    have HP := Lib.hid hp
    clear hp
    go_wp2_with fail
    go_ret
    exact ⟨rfl, HBB1.out.trans HP.out.1, HP.out.2⟩
  · rw [hz] at hne
    have d0 := HX.out.cell 0 _ rfl
    by_cases k1 : q0 = 1
    · subst k1
      have hd : doS b ⟨1, q1, q2, q3, q4, q5, q6, q7, q8, q9⟩ = (⟨q1, q2, q3, q4, [⟨1, ⟨#[120]⟩⟩], b.is⟩, 0) := by unfold doS; rw [if_pos rfl, hz]; rfl
      have HDD := Lib.hid hd
      clear hd
      have d1 := HX.out.cell 1 _ rfl
      have d2 := HX.out.cell 2 _ rfl
      have d3 := HX.out.cell 3 _ rfl
      have d4 := HX.out.cell 4 _ rfl
      have d5 := HX.out.cell 5 _ rfl
      have d6 := HX.out.cell 6 _ rfl
      have d7 := HX.out.cell 7 _ rfl
      have d8 := HX.out.cell 8 _ rfl
      have d9 := HX.out.cell 9 _ rfl
      go_wp2_with fail
      refine (deedOf1_any 1 q1 q2 q3 q4 q5 q6 q7 q8 q9 rfl _).mono ?_
      rintro e w1 ⟨rfl, hb⟩
      have HD1 := Lib.hid (HD.out.below hb)
      have HBB1 := Lib.hid (HBB.out.trans (hb.mono HBV.out))
      have HBV1 := Lib.hid (Nat.le_trans HBV.out hb.size)
      clear hb x0 x1 x2 x3 d0 d1 d2 d3 d4 d5 d6 d7 d8 d9
      have hta : ∀ u : World, (Instr.typeAssert (.iface 206 (.agg #[.int .i64 q1, .int .i64 q2, .int .i64 q3, .int .i64 q4])) 197 206 false).run Tryz.prog u = .ok (.agg #[.int .i64 q1, .int .i64 q2, .int .i64 q3, .int .i64 q4]) u := fun u => by kernel_rfl
      go_wp2_with fail
      refine (begin_any q1 q2 q3 q4 HD1.out HBV1.out).mono ?_
      rintro e w2 ⟨rfl, v', hD2, hb2⟩
      have HD2 := Lib.hid hD2
      have HB2 := Lib.hid (HBB1.out.trans hb2)
      clear hD2 hb2
      go_wp2_with fail
      go_ret
      rw [HDD.out]
      exact ⟨rfl, HB2.out, fun _ => ⟨v', HD2.out⟩⟩
    · have hd : doS b ⟨q0, q1, q2, q3, q4, q5, q6, q7, q8, q9⟩ = (bk0, 10) := by unfold doS; rw [if_neg k1, if_pos hz]
      have k2 : (q0 != 1) = true := by simpa using k1
      have HDD := Lib.hid hd
      clear hd
      go_wp2_with fail
      go_ret
      exact ⟨by rw [HDD.out]; rfl, HBB.out, fun h => by rw [HDD.out] at h; cases h⟩
end Go.Proofs.YtidcpdfhnhfelaaGreatDoor

