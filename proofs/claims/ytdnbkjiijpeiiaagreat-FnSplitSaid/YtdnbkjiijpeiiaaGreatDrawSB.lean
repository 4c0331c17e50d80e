/- The parts that the model draws for Combine. -/
import Derived.Test.YtdnbkjiijpeiiaaGreatDrawSA
import Derived.Test.YtdnbkjiijpeiiaaGreatFnPointsA
import Derived.Test.YtdnbkjiijpeiiaaGreatSSp4
import Derived.Deep.Cut
import Derived.Deep.CutBlock
namespace Go.Proofs.YtdnbkjiijpeiiaaGreat.Till
open Go
section
variable {P : Program} {ops : Array Oper} {md : Region.Mode} {S S' : World → Prop} {R : Act → World → Prop}
theorem opT_lit {i m : Nat} {o : Oper} {a : Act} {w : World} {ob : Obj} {K : Act → World → Prop} (ho : ops[i]? = some o) (hg : o.guard = none) (hd : isDefer o.op = false) (he : (execOp a.eval o).run P w = .ok (.value (.slice (some ⟨w.heap.size, 0, none⟩) m m)) (w.alloc ob))
    (h : ∀ (b : Nat) (w' : World), b = w.heap.size → w' = w.alloc ob → K (a.put o.dst (.slice (some ⟨b, 0, none⟩) m m)) w') : opT P ops i K a w :=
  ⟨o, ho, hg, not_defer hd, by rw [he]; exact h _ _ rfl rfl⟩
theorem opT_call {i : Nat} {o : Oper} {a : Act} {w : World} {f : FuncId} {args : Array Value} {K : Act → World → Prop} (ho : ops[i]? = some o) (hg : o.guard = none) (hd : isDefer o.op = false) (he : (execOp a.eval o).run P w = .ok (.enter f args) w)
    (h : Calls P f args w fun e w'' => ∃ v, e = .returned v ∧ K (a.put o.dst v) w'') : opT P ops i K a w :=
  ⟨o, ho, hg, not_defer hd, by rw [he]; exact Calls.mono h (fun e w'' he => by obtain ⟨v, rfl, h1⟩ := he; exact h1)⟩
/-- One of two may come up. -/
theorem two {i j t : Nat} {k : Nat} {listed : Array Bool} {a : Act} {w : World} (hr : Region.ready md ops listed = [i, j])
    (h1 : opT P ops i (fun a' w' => (i ≠ t → S w') ∧ wpT P md ops S t R k (listed.setIfInBounds i true) a' w') a w)
    (h2 : opT P ops j (fun a' w' => (j ≠ t → S w') ∧ wpT P md ops S t R k (listed.setIfInBounds j true) a' w') a w) : wpT P md ops S t R (k + 1) listed a w := by
  refine ⟨fun h0 => (by rw [hr] at h0; cases h0), fun m hm => ?_⟩
  rw [hr] at hm
  simp only [List.mem_cons, List.not_mem_nil, or_false] at hm
  rcases hm with rfl | rfl
  · exact h1
  · exact h2
/-- What holds with more asked for holds with less. -/
theorem less {t : Nat} (h : ∀ u, S' u → S u) : ∀ (k : Nat) (listed : Array Bool) (a : Act) (w : World), wpT P md ops S' t R k listed a w → wpT P md ops S t R k listed a w
  | 0, _, _, _, hh => hh
  | k + 1, listed, a, w, hh => ⟨hh.1, fun i hi => opT_mono (fun a' w' hw => ⟨fun hne => h _ (hw.1 hne), less h k _ _ _ hw.2⟩) (hh.2 i hi)⟩
end
end Go.Proofs.YtdnbkjiijpeiiaaGreat.Till
namespace Go.Proofs.YtdnbkjiijpeiiaaGreat
open Go.RowKit Go.PlainAid G MGF IRow
set_option linter.unusedVariables false
/-- Parts in memory that is new from B on, and a source. -/
structure Pts (w0 : World) (B : Nat) (p cb co sl sc : Nat) (sa : Option Addr) (v : Value) (l : List (Int × ByteArray)) (u : World) : Prop where
  own : u.ownsRow B 43 shE.k v l.length (shE.flat l)
  src : SrcC u p cb co sl sc sa
  gr : w0.grownBy u (some p)
  len : l.length ≤ 30
  sz : B ≤ u.heap.size
  txt : ∀ t, t < l.length → (l.getD t shD).2.size ≤ 1000
theorem below_row {w0 u : World} {p : Nat} (h : w0.grownBy u (some p)) {v : World} {row : Option Nat} (k : u.grownBy v row) (hr : ∀ g, row = some g → w0.heap.size ≤ g) : w0.grownBy v (some p) := grown_own h k hr
theorem splitR_txt (s d : ByteArray) (need many : Int) : ∀ t, t < (splitR s need many d).1.length → ((splitR s need many d).1.getD t shD).2.size ≤ 16 := by
  intro t ht
  by_cases h : splitC s need many d = 0
  · have hOk := splitC_zero h
    rw [splitR_yes h] at ht ⊢
    dsimp only at ht ⊢
    rw [partsT_length] at ht
    have e : (partsT (polysT (tb s) (tb d) (kOf need)) many.toNat).getD t shD = ((t : Int) + 1, tx (vals (polysT (tb s) (tb d) (kOf need)) (pl (t + 1)))) := partsT_getD _ ht
    rw [e]
    dsimp only
    rw [tx_size, vals_length, polysT_length, tb_length]
    exact hOk.s2
  · rw [splitR_no rfl h] at ht
    exact absurd ht (by simp)
theorem getD_snocS {l : List (Int × ByteArray)} {q : Int × ByteArray} {N : Nat} (h : ∀ t, t < l.length → (l.getD t shD).2.size ≤ N) (hq : q.2.size ≤ N) : ∀ t, t < (l ++ [q]).length → ((l ++ [q]).getD t shD).2.size ≤ N := by
  intro t ht
  rw [List.length_append, List.length_cons, List.length_nil] at ht
  by_cases h2 : t < l.length
  · have e : (l ++ [q]).getD t shD = l.getD t shD := by simp [List.getD, List.getElem?_append_left h2]
    rw [e]; exact h t h2
  · obtain rfl : t = l.length := by omega
    have e : (l ++ [q]).getD l.length shD = q := by simp [List.getD]
    rw [e]; exact hq
theorem flat_snocS : ∀ (l : List (Int × ByteArray)) (x : Int) (t : ByteArray), shE.flat (l ++ [(x, t)]) = shE.flat l ++ [.int .i64 x, .string t]
  | [], _, _ => rfl
  | q :: qs, x, t => by
    have ih := flat_snocS qs x t
    show shE.cells q ++ shE.flat (qs ++ [(x, t)]) = (shE.cells q ++ shE.flat qs) ++ _
    rw [ih, List.append_assoc]
theorem sizeOfShare (w : World) : (Go.sizeOf 43).run Tryz.prog w = .ok 2 w := by kernel_rfl
/-- 's[k:]' of parts. -/
theorem run_cut_shares (W : World) (b o len cap k : Nat) (hk : k < len) (hl : len ≤ cap) :
    (Instr.slice 25 (.slice (some ⟨b, o, none⟩) len cap) (some (.int .i64 (k : Int))) none none).run Tryz.prog W = .ok (.slice (some ⟨b, o + k * 2, none⟩) (len - k) (cap - k)) W := by
  have ht := Tryz.underlying25
  have ht' : Tryz.prog.underlying 25 = some (.slice (Tryz.prog.elem 25)) := by simp [Program.elem, ht]
  have he : Tryz.prog.elem 25 = 43 := by simp [Program.elem, ht]
  rw [run_slice_l W 25 _ _ _ ht' .i64 _ (by omega) (by omega), he, sizeOfShare]
  have hc : ¬ cap = k := by omega
  by_cases h0 : k = 0
  · subst h0
    simp [Result.andThen, sliced, Addr.add, hc]
  · simp [Result.andThen, sliced, Addr.add, hc, h0]
    omega
/-- Parts, drawn. -/
def SomeParts (w : World) (e : Ending) (w' : World) : Prop := ∃ (a : Option Addr) (n c : Nat) (l : List (Int × ByteArray)), e = .returned (.slice a n c) ∧ n ≤ 30 ∧ HR w' a n c l ∧ (∀ t, t < n → (l.getD t shD).2.size ≤ maxLen) ∧ Below w.heap.size w w'
set_option maxRecDepth 100000 in
set_option maxHeartbeats 6400000 in
theorem drawCombine_any (ao : Option Addr) (len cap : Nat) (w : World) (hC : CodeAt w ao len) (hl : len ≤ 1048576) :
    Calls Tryz.prog 6 #[.slice ao len cap] w (SomeParts w) := by
  obtain ⟨i0, hi, hz0, hz1, hz2⟩ := info_parts infoShare
  have hfd : ∀ (x y : Value) (u : World), (Instr.field 27 (.agg #[x, y]) 0).run Tryz.prog u = .ok x u := fun _ _ _ => by kernel_rfl
  go_enter Tryz.func6, Tryz.ntmps6
  go_wp2_with fail
  refine (source_any ao len cap w hC hl).mono ?_
  rintro e w1 ⟨p, rfl, hp, ⟨cb, co, sl, sc, sa, hS⟩, hb1⟩
  have HB1 := Lib.hid hb1
  clear hb1
  go_wp2_with fail
  refine (all_c p cb co sl sc sa w1 hS).mono ?_
  rintro e w2 ⟨s, d, need, many, rfl, h1, h2, h3, h4, h5, h6, hD⟩
  have HD := Lib.hid hD
  clear hD hS h3 h4 h5 h6
  go_wp2_with fail
  refine (specSplit_any s d need many _ (by unfold maxLen; omega) (by unfold maxLen; omega)).mono ?_
  rintro e w3 ⟨aS, kS, cS, rfl, hown, hb3⟩
  have hkS : (splitR s need many d).1.length = kS := shares_len hown
  have hlS := splitR_len s need many d
  have htS := splitR_txt s d need many
  have hp2 : p < w2.heap.size := HD.out.src.lt
  have hcb2 : 0 < sl → cb < w2.heap.size := HD.out.src.code
  have hP0 : Pts w1 w2.heap.size p cb co sl sc sa (.slice aS kS cS) (splitR s need many d).1 w3 := ⟨by rw [hkS]; exact hown, HD.out.src.below hb3, grown_below HD.out.gr hb3, by omega, hb3.size, fun t ht => Nat.le_trans (htS t ht) (by omega)⟩
  generalize (splitR s need many d).1 = l0 at *
  generalize (splitR s need many d).2 = code at *
  have HP0 := Lib.hid hP0
  have HSZ : Hid (w1.heap.size ≤ w2.heap.size) := Lib.hid HD.out.gr.size
  have hl22 : l0.length ≤ 20 := hlS
  subst hkS
  clear hown hb3 hlS htS hP0 HD
  go_wp2_with fail
  refine (n_c p cb co sl sc sa 10 _ HP0.out.src (by omega)).mono ?_
  rintro e w4 ⟨x, rfl, x0, x1, hS1, hg, hz⟩
  have hP1 : Pts w1 w2.heap.size p cb co sl sc sa (.slice aS l0.length cS) l0 w4 := ⟨own_drawn HP0.out.own hg hp2, hS1, grownBy_trans HP0.out.gr hg, HP0.out.len, Nat.le_trans HP0.out.sz hg.size, HP0.out.txt⟩
  have HP1 := Lib.hid hP1
  clear x1 hS1 hg hz hP1 HP0
  go_upto_block 0 with fail
  go_cut [4] from 5 (fun v u => ∃ l : List (Int × ByteArray), l.length ≤ 22 ∧ Pts w1 w2.heap.size p cb co sl sc sa v l u)
  case first =>
    by_cases hx0 : x = 0
    · subst hx0
      by_cases hl0 : 0 < l0.length
      · obtain ⟨g, o, hae, hg, hc1, hc2⟩ := HR.at (HR.own HP1.out.own) hl0
        subst hae
        rw [Nat.zero_mul, Nat.add_zero] at hc1 hc2
        have HT0 := Lib.hid (HP1.out.txt 0 hl0)
        have hown := HP1.out.own
        have hsz : w2.heap.size ≤ w4.heap.size := HP1.out.sz
        generalize l0.getD 0 shD = q at *
        obtain ⟨qx, qt⟩ := q
        dsimp only at hc1 hc2
        go_wp2_with (at_builtin; refine append_enc shE rfl (.tmp 22) (.tmp 26) 25 rfl 43 i0 (.agg #[.int .i64 0, .string ByteArray.empty]) 24 Tryz.underlying25 hi hz0 hz1 hz2 rfl (by decide) (by decide) w2.heap.size _ _ _ rfl hown (qx, qt) _ rfl _ rfl hsz (by omega) ?_; intro v' w6 hown6 hg6 _; have HO6 := Lib.hid hown6; have HG6 := Lib.hid hg6; clear hown6 hg6)
        have HF : Hid (Pts w1 w2.heap.size p cb co sl sc sa v' (l0 ++ [(qx, qt)]) w6) := Lib.hid ⟨by rw [List.length_append]; exact HO6.out, HP1.out.src.grown hp2 hcb2 HG6.out (fun k hk => (HP1.out.own.lt k hk).1), grown_own HP1.out.gr HG6.out (fun k hk => Nat.le_trans HSZ.out (HP1.out.own.lt k hk).1), by rw [List.length_append]; simp; omega, Nat.le_trans HP1.out.sz HG6.out.size, getD_snocS HP1.out.txt HT0.out⟩
        go_meet
        case rel => exact ⟨_, by rw [List.length_append]; simp; omega, HF.out⟩
      · go_wp2_with fail
        go_meet
        case rel => exact ⟨l0, by omega, HP1.out⟩
    · by_cases hx1 : x = 1
      · subst hx1
        have hP4 : Pts w1 w2.heap.size p cb co sl sc sa (.slice aS l0.length cS) l0 w4.drew := ⟨HP1.out.own.drew, HP1.out.src.kept rfl (fun _ => rfl), grownBy_trans HP1.out.gr ⟨rfl, rfl, rfl, Nat.le_refl _, fun _ _ _ => rfl⟩, HP1.out.len, HP1.out.sz, HP1.out.txt⟩
        have HPN : Hid (∀ u v : World, Pts w1 w2.heap.size p cb co sl sc sa (.slice aS l0.length cS) l0 u → SrcC v p cb co sl sc sa → u.grownBy v (some p) → Pts w1 w2.heap.size p cb co sl sc sa (.slice aS l0.length cS) l0 v) := Lib.hid (fun u v h hs hg => ⟨own_drawn h.own hg hp2, hs, grownBy_trans h.gr hg, h.len, Nat.le_trans h.sz hg.size, h.txt⟩)
        have HPA : Hid (∀ (u : World) (o : Obj), Pts w1 w2.heap.size p cb co sl sc sa (.slice aS l0.length cS) l0 u → Pts w1 w2.heap.size p cb co sl sc sa (.slice aS l0.length cS) l0 (u.alloc o)) := Lib.hid (fun u o h => ⟨h.own.alloc o, h.src.below ((Below.refl _ _).alloc (Nat.le_refl _) _), grownBy_trans h.gr (World.grownBy_alloc u o _), h.len, Nat.le_trans h.sz (World.grownBy_alloc u o none).size, h.txt⟩)
        have HFIN : Hid (∀ (u v : World) (x : Int) (t : ByteArray) (v' : Value), Pts w1 w2.heap.size p cb co sl sc sa (.slice aS l0.length cS) l0 u → t.size ≤ 1000 → v.ownsRow w2.heap.size 43 shE.k v' (l0.length + 1) (shE.flat (l0 ++ [(x, t)])) → u.grownBy v (Value.slice aS l0.length cS).ownBlock → Pts w1 w2.heap.size p cb co sl sc sa v' (l0 ++ [(x, t)]) v) := Lib.hid (fun u v x t v' h ht ho hg => ⟨by rw [List.length_append]; exact ho, h.src.grown hp2 hcb2 hg (fun k hk => (h.own.lt k hk).1), grown_own h.gr hg (fun k hk => Nat.le_trans HSZ.out (h.own.lt k hk).1), by rw [List.length_append]; simp; omega, Nat.le_trans h.sz hg.size, getD_snocS h.txt ht⟩)
        have HFL : Hid (∀ (x : Int) (t : ByteArray), shE.flat (l0 ++ [(x, t)]) = shE.flat l0 ++ [.int .i64 x, .string t]) := Lib.hid (fun x t => flat_snocS l0 x t)
        go_wp2_with fail
        refine Till.region (t := 13) (by kernel_rfl) (fun _ => True) (fun a w => _) ?_ (fun _ _ h => h)
        refine Till.take (i := 0) (v := .slice aS l0.length cS) rfl rfl rfl rfl (by kernel_rfl) (by kernel_rfl) (by kernel_rfl) (by kernel_rfl) trivial (fun u hu => by go_simp) ?_
        simp only [Act.put, List.getElem_toArray, List.getElem_cons_zero, List.getElem_cons_succ, List.setIfInBounds_toArray, List.set_cons_zero, List.set_cons_succ]
        refine Till.take (i := 2) (v := .pointer (some ⟨p, 0, none⟩)) rfl rfl rfl rfl (by kernel_rfl) (by kernel_rfl) (by kernel_rfl) (by kernel_rfl) trivial (fun u hu => by go_simp) ?_
        simp only [Act.put, List.getElem_toArray, List.getElem_cons_zero, List.getElem_cons_succ, List.setIfInBounds_toArray, List.set_cons_zero, List.set_cons_succ]
        refine Till.take (i := 6) (v := .pointer (some ⟨p, 0, none⟩)) rfl rfl rfl rfl (by kernel_rfl) (by kernel_rfl) (by kernel_rfl) (by kernel_rfl) trivial (fun u hu => by go_simp) ?_
        simp only [Act.put, List.getElem_toArray, List.getElem_cons_zero, List.getElem_cons_succ, List.setIfInBounds_toArray, List.set_cons_zero, List.set_cons_succ]
        refine Till.take (i := 7) (v := .pointer (some ⟨p, 0, none⟩)) rfl rfl rfl rfl (by kernel_rfl) (by kernel_rfl) (by kernel_rfl) (by kernel_rfl) trivial (fun u hu => by go_simp) ?_
        simp only [Act.put, List.getElem_toArray, List.getElem_cons_zero, List.getElem_cons_succ, List.setIfInBounds_toArray, List.set_cons_zero, List.set_cons_succ]
        have hP := hP4
        clear hP4
        generalize w4.drew = wq at *
        refine Till.two (i := 1) (j := 3) (by kernel_rfl) ?_ ?_
        · skip
          refine Till.opT_lit (m := 4) (ob := .cells #[.int .i64 0, .int .i64 50, .int .i64 255, .int .i64 256] 2) rfl rfl rfl (by go_simp) (fun b wl hb hwl => ⟨fun _ => trivial, ?_⟩)
          simp only [Act.put, List.getElem_toArray, List.getElem_cons_zero, List.getElem_cons_succ, List.setIfInBounds_toArray, List.set_cons_zero, List.set_cons_succ]
          have hP' := HPA.out _ (.cells #[.int .i64 0, .int .i64 50, .int .i64 255, .int .i64 256] 2) hP
          have hcl : ∀ i, wl.cell? ⟨b, i, none⟩ = (#[Value.int .i64 0, .int .i64 50, .int .i64 255, .int .i64 256] : Array Value)[i]? := fun i => by rw [hwl, hb]; exact World.cell?_alloc_new _ _ _ i
          have hbp : some b ≠ some p := by have := hP.src.lt; simp; omega
          have hbo : some b ≠ (Value.slice aS l0.length cS).ownBlock := fun e => by have := (hP.own.lt b e.symm).2; omega
          rw [← hwl] at hP'
          clear hwl hb hP
          have hP := hP'
          clear hP'
          refine Till.call (i := 3) (f := 23) (args := #[.pointer (some ⟨p, 0, none⟩), .int .i64 4]) (by kernel_rfl) rfl rfl rfl (by go_simp) ?_
          refine Calls.mono (n_c p cb co sl sc sa 4 _ hP.src (by omega)) ?_
          rintro e wn ⟨q, rfl, q0, q1, hS1, hg, hz⟩
          obtain ⟨q, rfl⟩ := Int.eq_ofNat_of_zero_le q0
          have hq4 : q < 4 := by omega
          have hP' := HPN.out _ _ hP hS1 hg
          clear hP
          have hP := hP'
          clear hP'
          have hcl' : ∀ i z, wl.cell? ⟨b, i, none⟩ = some z → wn.cell? ⟨b, i, none⟩ = some z := fun i z h => hg.cell h hbp
          refine ⟨_, rfl, fun _ => trivial, ?_⟩
          simp only [Act.put, List.getElem_toArray, List.getElem_cons_zero, List.getElem_cons_succ, List.setIfInBounds_toArray, List.set_cons_zero, List.set_cons_succ]
          obtain ⟨xx, hxx⟩ : ∃ xx, wn.cell? ⟨b, q, none⟩ = some (.int .i64 xx) := by
            rcases (show q = 0 ∨ q = 1 ∨ q = 2 ∨ q = 3 by omega) with rfl | rfl | rfl | rfl
            · exact ⟨0, hcl' _ _ (hcl 0)⟩
            · exact ⟨50, hcl' _ _ (hcl 1)⟩
            · exact ⟨255, hcl' _ _ (hcl 2)⟩
            · exact ⟨256, hcl' _ _ (hcl 3)⟩
          have hqi : (q : Int) < 4 := by omega
          obtain ⟨S, hSd⟩ : ∃ S : World → Prop, S = fun u => u.cell? ⟨b, q, none⟩ = some (.int .i64 xx) := ⟨_, rfl⟩
          have hSS : S wn := by rw [hSd]; exact hxx
          have HSG : Hid (∀ (u v : World) (row : Option Nat), S u → u.grownBy v row → some b ≠ row → S v) := Lib.hid (fun u v row h hg hr => by rw [hSd] at h ⊢; exact hg.cell h hr)
          clear hxx
          refine Till.less (S' := S) (fun _ _ => trivial) _ _ _ _ ?_
          refine Till.take (i := 4) (v := .pointer (some ⟨b, q, none⟩)) rfl rfl rfl rfl (by kernel_rfl) (by kernel_rfl) (by kernel_rfl) (by kernel_rfl) hSS (fun u hu => by go_simp) ?_
          simp only [Act.put, List.getElem_toArray, List.getElem_cons_zero, List.getElem_cons_succ, List.setIfInBounds_toArray, List.set_cons_zero, List.set_cons_succ]
          refine Till.take (i := 5) (v := .int .i64 xx) rfl rfl rfl rfl (by kernel_rfl) (by kernel_rfl) (by kernel_rfl) (by kernel_rfl) hSS (fun u hu => by rw [hSd] at hu; go_simp) ?_
          simp only [Act.put, List.getElem_toArray, List.getElem_cons_zero, List.getElem_cons_succ, List.setIfInBounds_toArray, List.set_cons_zero, List.set_cons_succ]
          refine Till.call (i := 8) (f := 23) (args := #[.pointer (some ⟨p, 0, none⟩), .int .i64 4]) (by kernel_rfl) rfl rfl rfl (by go_simp) ?_
          refine Calls.mono (n_c p cb co sl sc sa 4 _ hP.src (by omega)) ?_
          rintro e wn ⟨y, rfl, y0, y1, hS1, hg, hz⟩
          have hy4 : y ≤ 3 := by omega
          have hP' := HPN.out _ _ hP hS1 hg
          clear hP
          have hP := hP'
          clear hP'
          have hSn := HSG.out _ _ _ hSS hg hbp
          clear hSS
          have hSS := hSn
          clear hSn
          refine ⟨_, rfl, fun _ => hSS, ?_⟩
          simp only [Act.put, List.getElem_toArray, List.getElem_cons_zero, List.getElem_cons_succ, List.setIfInBounds_toArray, List.set_cons_zero, List.set_cons_succ]
          refine Till.call (i := 9) (f := 24) (args := #[.pointer (some ⟨p, 0, none⟩), .int .i64 y]) (by kernel_rfl) rfl rfl rfl (by go_simp) ?_
          refine Calls.mono (bytes_c p cb co sl sc sa y _ hP.src (by omega)) ?_
          rintro e wn ⟨tt, rfl, htt, ⟨hS1, hg⟩⟩
          have htz : tt.size ≤ 1000 := by omega
          have hP' := HPN.out _ _ hP hS1 hg
          clear hP
          have hP := hP'
          clear hP'
          have hSn := HSG.out _ _ _ hSS hg hbp
          clear hSS
          have hSS := hSn
          clear hSn
          refine ⟨_, rfl, fun _ => hSS, ?_⟩
          simp only [Act.put, List.getElem_toArray, List.getElem_cons_zero, List.getElem_cons_succ, List.setIfInBounds_toArray, List.set_cons_zero, List.set_cons_succ]
          refine Till.value (i := 10) (v := .agg #[.int .i64 xx, .string tt]) (w' := wn) (by kernel_rfl) rfl rfl rfl (by go_simp) (fun _ => hSS) ?_
          simp only [Act.put, List.getElem_toArray, List.getElem_cons_zero, List.getElem_cons_succ, List.setIfInBounds_toArray, List.set_cons_zero, List.set_cons_succ]
          refine Till.lit (i := 11) (m := 1) (ob := .cells #[.int .i64 xx, .string tt] 43) (by kernel_rfl) rfl rfl rfl (by go_simp) (fun b2 wm hb2 hwm => ?_)
          have hPm := HPA.out _ (.cells #[.int .i64 xx, .string tt] 43) hP
          rw [← hwm] at hPm
          have hSm : S wm := HSG.out _ _ none hSS (by rw [hwm]; exact World.grownBy_alloc _ _ _) (by simp)
          have hnews := cell_two_new wn (.int .i64 xx) (.string tt) 43
          rw [← hwm, ← hb2] at hnews
          have hszm := hPm.sz
          obtain ⟨v4, w6, hrun, hown6, hg6, _⟩ := run_append_own (P := Tryz.prog) wm w2.heap.size 25 25 43 i0 (.agg #[.int .i64 0, .string ByteArray.empty]) 2 24 Tryz.underlying25 hi hz0 hz1 hz2 rfl (by decide) _ l0.length _ hPm.own ⟨b2, 0, none⟩ 1 1 [.int .i64 xx, .string tt] rfl hnews (fun u hu => by simp at hu; rcases hu with rfl | rfl <;> rfl) (by unfold maxLen; omega) (by omega) hszm
          rw [← HFL.out] at hown6
          have HF := Lib.hid (HFIN.out _ _ xx tt v4 hPm htz hown6 hg6)
          have hS6 : S w6 := HSG.out _ _ _ hSm hg6 hbo
          refine ⟨fun _ => hSm, ?_⟩
          simp only [Act.put, List.getElem_toArray, List.getElem_cons_zero, List.getElem_cons_succ, List.setIfInBounds_toArray, List.set_cons_zero, List.set_cons_succ]
          refine Till.value (i := 12) (v := v4) (w' := w6) (by kernel_rfl) rfl rfl rfl (run_op_append (.tmp 30) (.tmp 41) 25 rfl hrun) (fun _ => hS6) ?_
          simp only [Act.put, List.getElem_toArray, List.getElem_cons_zero, List.getElem_cons_succ, List.setIfInBounds_toArray, List.set_cons_zero, List.set_cons_succ]
          refine Till.value (i := 13) (v := v4) (w' := w6) (by kernel_rfl) rfl rfl rfl (by go_simp) (fun h => absurd rfl h) ?_
          simp only [Act.put, List.getElem_toArray, List.getElem_cons_zero, List.getElem_cons_succ, List.setIfInBounds_toArray, List.set_cons_zero, List.set_cons_succ]
          refine Till.done (by kernel_rfl) ?_ _
          clear hrun hown6 hg6 hnews hSm hS6 hSS hSd
          go_wp2_with fail
          go_meet
          case rel => exact ⟨_, by rw [List.length_append]; simp; omega, HF.out⟩
        · skip
          refine Till.opT_call (f := 23) (args := #[.pointer (some ⟨p, 0, none⟩), .int .i64 4]) rfl rfl rfl (by go_simp) ?_
          refine Calls.mono (n_c p cb co sl sc sa 4 _ hP.src (by omega)) ?_
          rintro e wn ⟨q, rfl, q0, q1, hS1, hg, hz⟩
          obtain ⟨q, rfl⟩ := Int.eq_ofNat_of_zero_le q0
          have hq4 : q < 4 := by omega
          have hP' := HPN.out _ _ hP hS1 hg
          clear hP
          have hP := hP'
          clear hP'
          refine ⟨_, rfl, fun _ => trivial, ?_⟩
          simp only [Act.put, List.getElem_toArray, List.getElem_cons_zero, List.getElem_cons_succ, List.setIfInBounds_toArray, List.set_cons_zero, List.set_cons_succ]
          refine Till.two (i := 1) (j := 8) (by kernel_rfl) ?_ ?_
          · skip
            refine Till.opT_lit (m := 4) (ob := .cells #[.int .i64 0, .int .i64 50, .int .i64 255, .int .i64 256] 2) rfl rfl rfl (by go_simp) (fun b wl hb hwl => ⟨fun _ => trivial, ?_⟩)
            simp only [Act.put, List.getElem_toArray, List.getElem_cons_zero, List.getElem_cons_succ, List.setIfInBounds_toArray, List.set_cons_zero, List.set_cons_succ]
            have hP' := HPA.out _ (.cells #[.int .i64 0, .int .i64 50, .int .i64 255, .int .i64 256] 2) hP
            have hcl : ∀ i, wl.cell? ⟨b, i, none⟩ = (#[Value.int .i64 0, .int .i64 50, .int .i64 255, .int .i64 256] : Array Value)[i]? := fun i => by rw [hwl, hb]; exact World.cell?_alloc_new _ _ _ i
            have hbp : some b ≠ some p := by have := hP.src.lt; simp; omega
            have hbo : some b ≠ (Value.slice aS l0.length cS).ownBlock := fun e => by have := (hP.own.lt b e.symm).2; omega
            rw [← hwl] at hP'
            clear hwl hb hP
            have hP := hP'
            clear hP'
            obtain ⟨xx, hxx⟩ : ∃ xx, wl.cell? ⟨b, q, none⟩ = some (.int .i64 xx) := by
              rcases (show q = 0 ∨ q = 1 ∨ q = 2 ∨ q = 3 by omega) with rfl | rfl | rfl | rfl
              · exact ⟨0, hcl 0⟩
              · exact ⟨50, hcl 1⟩
              · exact ⟨255, hcl 2⟩
              · exact ⟨256, hcl 3⟩
            have hqi : (q : Int) < 4 := by omega
            obtain ⟨S, hSd⟩ : ∃ S : World → Prop, S = fun u => u.cell? ⟨b, q, none⟩ = some (.int .i64 xx) := ⟨_, rfl⟩
            have hSS : S wl := by rw [hSd]; exact hxx
            have HSG : Hid (∀ (u v : World) (row : Option Nat), S u → u.grownBy v row → some b ≠ row → S v) := Lib.hid (fun u v row h hg hr => by rw [hSd] at h ⊢; exact hg.cell h hr)
            clear hxx
            refine Till.less (S' := S) (fun _ _ => trivial) _ _ _ _ ?_
            refine Till.take (i := 4) (v := .pointer (some ⟨b, q, none⟩)) rfl rfl rfl rfl (by kernel_rfl) (by kernel_rfl) (by kernel_rfl) (by kernel_rfl) hSS (fun u hu => by go_simp) ?_
            simp only [Act.put, List.getElem_toArray, List.getElem_cons_zero, List.getElem_cons_succ, List.setIfInBounds_toArray, List.set_cons_zero, List.set_cons_succ]
            refine Till.take (i := 5) (v := .int .i64 xx) rfl rfl rfl rfl (by kernel_rfl) (by kernel_rfl) (by kernel_rfl) (by kernel_rfl) hSS (fun u hu => by rw [hSd] at hu; go_simp) ?_
            simp only [Act.put, List.getElem_toArray, List.getElem_cons_zero, List.getElem_cons_succ, List.setIfInBounds_toArray, List.set_cons_zero, List.set_cons_succ]
            refine Till.call (i := 8) (f := 23) (args := #[.pointer (some ⟨p, 0, none⟩), .int .i64 4]) (by kernel_rfl) rfl rfl rfl (by go_simp) ?_
            refine Calls.mono (n_c p cb co sl sc sa 4 _ hP.src (by omega)) ?_
            rintro e wn ⟨y, rfl, y0, y1, hS1, hg, hz⟩
            have hy4 : y ≤ 3 := by omega
            have hP' := HPN.out _ _ hP hS1 hg
            clear hP
            have hP := hP'
            clear hP'
            have hSn := HSG.out _ _ _ hSS hg hbp
            clear hSS
            have hSS := hSn
            clear hSn
            refine ⟨_, rfl, fun _ => hSS, ?_⟩
            simp only [Act.put, List.getElem_toArray, List.getElem_cons_zero, List.getElem_cons_succ, List.setIfInBounds_toArray, List.set_cons_zero, List.set_cons_succ]
            refine Till.call (i := 9) (f := 24) (args := #[.pointer (some ⟨p, 0, none⟩), .int .i64 y]) (by kernel_rfl) rfl rfl rfl (by go_simp) ?_
            refine Calls.mono (bytes_c p cb co sl sc sa y _ hP.src (by omega)) ?_
            rintro e wn ⟨tt, rfl, htt, ⟨hS1, hg⟩⟩
            have htz : tt.size ≤ 1000 := by omega
            have hP' := HPN.out _ _ hP hS1 hg
            clear hP
            have hP := hP'
            clear hP'
            have hSn := HSG.out _ _ _ hSS hg hbp
            clear hSS
            have hSS := hSn
            clear hSn
            refine ⟨_, rfl, fun _ => hSS, ?_⟩
            simp only [Act.put, List.getElem_toArray, List.getElem_cons_zero, List.getElem_cons_succ, List.setIfInBounds_toArray, List.set_cons_zero, List.set_cons_succ]
            refine Till.value (i := 10) (v := .agg #[.int .i64 xx, .string tt]) (w' := wn) (by kernel_rfl) rfl rfl rfl (by go_simp) (fun _ => hSS) ?_
            simp only [Act.put, List.getElem_toArray, List.getElem_cons_zero, List.getElem_cons_succ, List.setIfInBounds_toArray, List.set_cons_zero, List.set_cons_succ]
            refine Till.lit (i := 11) (m := 1) (ob := .cells #[.int .i64 xx, .string tt] 43) (by kernel_rfl) rfl rfl rfl (by go_simp) (fun b2 wm hb2 hwm => ?_)
            have hPm := HPA.out _ (.cells #[.int .i64 xx, .string tt] 43) hP
            rw [← hwm] at hPm
            have hSm : S wm := HSG.out _ _ none hSS (by rw [hwm]; exact World.grownBy_alloc _ _ _) (by simp)
            have hnews := cell_two_new wn (.int .i64 xx) (.string tt) 43
            rw [← hwm, ← hb2] at hnews
            have hszm := hPm.sz
            obtain ⟨v4, w6, hrun, hown6, hg6, _⟩ := run_append_own (P := Tryz.prog) wm w2.heap.size 25 25 43 i0 (.agg #[.int .i64 0, .string ByteArray.empty]) 2 24 Tryz.underlying25 hi hz0 hz1 hz2 rfl (by decide) _ l0.length _ hPm.own ⟨b2, 0, none⟩ 1 1 [.int .i64 xx, .string tt] rfl hnews (fun u hu => by simp at hu; rcases hu with rfl | rfl <;> rfl) (by unfold maxLen; omega) (by omega) hszm
            rw [← HFL.out] at hown6
            have HF := Lib.hid (HFIN.out _ _ xx tt v4 hPm htz hown6 hg6)
            have hS6 : S w6 := HSG.out _ _ _ hSm hg6 hbo
            refine ⟨fun _ => hSm, ?_⟩
            simp only [Act.put, List.getElem_toArray, List.getElem_cons_zero, List.getElem_cons_succ, List.setIfInBounds_toArray, List.set_cons_zero, List.set_cons_succ]
            refine Till.value (i := 12) (v := v4) (w' := w6) (by kernel_rfl) rfl rfl rfl (run_op_append (.tmp 30) (.tmp 41) 25 rfl hrun) (fun _ => hS6) ?_
            simp only [Act.put, List.getElem_toArray, List.getElem_cons_zero, List.getElem_cons_succ, List.setIfInBounds_toArray, List.set_cons_zero, List.set_cons_succ]
            refine Till.value (i := 13) (v := v4) (w' := w6) (by kernel_rfl) rfl rfl rfl (by go_simp) (fun h => absurd rfl h) ?_
            simp only [Act.put, List.getElem_toArray, List.getElem_cons_zero, List.getElem_cons_succ, List.setIfInBounds_toArray, List.set_cons_zero, List.set_cons_succ]
            refine Till.done (by kernel_rfl) ?_ _
            clear hrun hown6 hg6 hnews hSm hS6 hSS hSd
            go_wp2_with fail
            go_meet
            case rel => exact ⟨_, by rw [List.length_append]; simp; omega, HF.out⟩
          · skip
            refine Till.opT_call (f := 23) (args := #[.pointer (some ⟨p, 0, none⟩), .int .i64 4]) rfl rfl rfl (by go_simp) ?_
            refine Calls.mono (n_c p cb co sl sc sa 4 _ hP.src (by omega)) ?_
            rintro e wn ⟨y, rfl, y0, y1, hS1, hg, hz⟩
            have hy4 : y ≤ 3 := by omega
            have hP' := HPN.out _ _ hP hS1 hg
            clear hP
            have hP := hP'
            clear hP'
            refine ⟨_, rfl, fun _ => trivial, ?_⟩
            simp only [Act.put, List.getElem_toArray, List.getElem_cons_zero, List.getElem_cons_succ, List.setIfInBounds_toArray, List.set_cons_zero, List.set_cons_succ]
            refine Till.two (i := 1) (j := 9) (by kernel_rfl) ?_ ?_
            · skip
              refine Till.opT_lit (m := 4) (ob := .cells #[.int .i64 0, .int .i64 50, .int .i64 255, .int .i64 256] 2) rfl rfl rfl (by go_simp) (fun b wl hb hwl => ⟨fun _ => trivial, ?_⟩)
              simp only [Act.put, List.getElem_toArray, List.getElem_cons_zero, List.getElem_cons_succ, List.setIfInBounds_toArray, List.set_cons_zero, List.set_cons_succ]
              have hP' := HPA.out _ (.cells #[.int .i64 0, .int .i64 50, .int .i64 255, .int .i64 256] 2) hP
              have hcl : ∀ i, wl.cell? ⟨b, i, none⟩ = (#[Value.int .i64 0, .int .i64 50, .int .i64 255, .int .i64 256] : Array Value)[i]? := fun i => by rw [hwl, hb]; exact World.cell?_alloc_new _ _ _ i
              have hbp : some b ≠ some p := by have := hP.src.lt; simp; omega
              have hbo : some b ≠ (Value.slice aS l0.length cS).ownBlock := fun e => by have := (hP.own.lt b e.symm).2; omega
              rw [← hwl] at hP'
              clear hwl hb hP
              have hP := hP'
              clear hP'
              obtain ⟨xx, hxx⟩ : ∃ xx, wl.cell? ⟨b, q, none⟩ = some (.int .i64 xx) := by
                rcases (show q = 0 ∨ q = 1 ∨ q = 2 ∨ q = 3 by omega) with rfl | rfl | rfl | rfl
                · exact ⟨0, hcl 0⟩
                · exact ⟨50, hcl 1⟩
                · exact ⟨255, hcl 2⟩
                · exact ⟨256, hcl 3⟩
              have hqi : (q : Int) < 4 := by omega
              obtain ⟨S, hSd⟩ : ∃ S : World → Prop, S = fun u => u.cell? ⟨b, q, none⟩ = some (.int .i64 xx) := ⟨_, rfl⟩
              have hSS : S wl := by rw [hSd]; exact hxx
              have HSG : Hid (∀ (u v : World) (row : Option Nat), S u → u.grownBy v row → some b ≠ row → S v) := Lib.hid (fun u v row h hg hr => by rw [hSd] at h ⊢; exact hg.cell h hr)
              clear hxx
              refine Till.less (S' := S) (fun _ _ => trivial) _ _ _ _ ?_
              refine Till.take (i := 4) (v := .pointer (some ⟨b, q, none⟩)) rfl rfl rfl rfl (by kernel_rfl) (by kernel_rfl) (by kernel_rfl) (by kernel_rfl) hSS (fun u hu => by go_simp) ?_
              simp only [Act.put, List.getElem_toArray, List.getElem_cons_zero, List.getElem_cons_succ, List.setIfInBounds_toArray, List.set_cons_zero, List.set_cons_succ]
              refine Till.take (i := 5) (v := .int .i64 xx) rfl rfl rfl rfl (by kernel_rfl) (by kernel_rfl) (by kernel_rfl) (by kernel_rfl) hSS (fun u hu => by rw [hSd] at hu; go_simp) ?_
              simp only [Act.put, List.getElem_toArray, List.getElem_cons_zero, List.getElem_cons_succ, List.setIfInBounds_toArray, List.set_cons_zero, List.set_cons_succ]
              refine Till.call (i := 9) (f := 24) (args := #[.pointer (some ⟨p, 0, none⟩), .int .i64 y]) (by kernel_rfl) rfl rfl rfl (by go_simp) ?_
              refine Calls.mono (bytes_c p cb co sl sc sa y _ hP.src (by omega)) ?_
              rintro e wn ⟨tt, rfl, htt, ⟨hS1, hg⟩⟩
              have htz : tt.size ≤ 1000 := by omega
              have hP' := HPN.out _ _ hP hS1 hg
              clear hP
              have hP := hP'
              clear hP'
              have hSn := HSG.out _ _ _ hSS hg hbp
              clear hSS
              have hSS := hSn
              clear hSn
              refine ⟨_, rfl, fun _ => hSS, ?_⟩
              simp only [Act.put, List.getElem_toArray, List.getElem_cons_zero, List.getElem_cons_succ, List.setIfInBounds_toArray, List.set_cons_zero, List.set_cons_succ]
              refine Till.value (i := 10) (v := .agg #[.int .i64 xx, .string tt]) (w' := wn) (by kernel_rfl) rfl rfl rfl (by go_simp) (fun _ => hSS) ?_
              simp only [Act.put, List.getElem_toArray, List.getElem_cons_zero, List.getElem_cons_succ, List.setIfInBounds_toArray, List.set_cons_zero, List.set_cons_succ]
              refine Till.lit (i := 11) (m := 1) (ob := .cells #[.int .i64 xx, .string tt] 43) (by kernel_rfl) rfl rfl rfl (by go_simp) (fun b2 wm hb2 hwm => ?_)
              have hPm := HPA.out _ (.cells #[.int .i64 xx, .string tt] 43) hP
              rw [← hwm] at hPm
              have hSm : S wm := HSG.out _ _ none hSS (by rw [hwm]; exact World.grownBy_alloc _ _ _) (by simp)
              have hnews := cell_two_new wn (.int .i64 xx) (.string tt) 43
              rw [← hwm, ← hb2] at hnews
              have hszm := hPm.sz
              obtain ⟨v4, w6, hrun, hown6, hg6, _⟩ := run_append_own (P := Tryz.prog) wm w2.heap.size 25 25 43 i0 (.agg #[.int .i64 0, .string ByteArray.empty]) 2 24 Tryz.underlying25 hi hz0 hz1 hz2 rfl (by decide) _ l0.length _ hPm.own ⟨b2, 0, none⟩ 1 1 [.int .i64 xx, .string tt] rfl hnews (fun u hu => by simp at hu; rcases hu with rfl | rfl <;> rfl) (by unfold maxLen; omega) (by omega) hszm
              rw [← HFL.out] at hown6
              have HF := Lib.hid (HFIN.out _ _ xx tt v4 hPm htz hown6 hg6)
              have hS6 : S w6 := HSG.out _ _ _ hSm hg6 hbo
              refine ⟨fun _ => hSm, ?_⟩
              simp only [Act.put, List.getElem_toArray, List.getElem_cons_zero, List.getElem_cons_succ, List.setIfInBounds_toArray, List.set_cons_zero, List.set_cons_succ]
              refine Till.value (i := 12) (v := v4) (w' := w6) (by kernel_rfl) rfl rfl rfl (run_op_append (.tmp 30) (.tmp 41) 25 rfl hrun) (fun _ => hS6) ?_
              simp only [Act.put, List.getElem_toArray, List.getElem_cons_zero, List.getElem_cons_succ, List.setIfInBounds_toArray, List.set_cons_zero, List.set_cons_succ]
              refine Till.value (i := 13) (v := v4) (w' := w6) (by kernel_rfl) rfl rfl rfl (by go_simp) (fun h => absurd rfl h) ?_
              simp only [Act.put, List.getElem_toArray, List.getElem_cons_zero, List.getElem_cons_succ, List.setIfInBounds_toArray, List.set_cons_zero, List.set_cons_succ]
              refine Till.done (by kernel_rfl) ?_ _
              clear hrun hown6 hg6 hnews hSm hS6 hSS hSd
              go_wp2_with fail
              go_meet
              case rel => exact ⟨_, by rw [List.length_append]; simp; omega, HF.out⟩
            · skip
              refine Till.opT_call (f := 24) (args := #[.pointer (some ⟨p, 0, none⟩), .int .i64 y]) rfl rfl rfl (by go_simp) ?_
              refine Calls.mono (bytes_c p cb co sl sc sa y _ hP.src (by omega)) ?_
              rintro e wn ⟨tt, rfl, htt, ⟨hS1, hg⟩⟩
              have htz : tt.size ≤ 1000 := by omega
              have hP' := HPN.out _ _ hP hS1 hg
              clear hP
              have hP := hP'
              clear hP'
              refine ⟨_, rfl, fun _ => trivial, ?_⟩
              simp only [Act.put, List.getElem_toArray, List.getElem_cons_zero, List.getElem_cons_succ, List.setIfInBounds_toArray, List.set_cons_zero, List.set_cons_succ]
              refine Till.lit (i := 1) (m := 4) (ob := .cells #[.int .i64 0, .int .i64 50, .int .i64 255, .int .i64 256] 2) (by kernel_rfl) rfl rfl rfl (by go_simp) (fun b wl hb hwl => ⟨fun _ => trivial, ?_⟩)
              simp only [Act.put, List.getElem_toArray, List.getElem_cons_zero, List.getElem_cons_succ, List.setIfInBounds_toArray, List.set_cons_zero, List.set_cons_succ]
              have hP' := HPA.out _ (.cells #[.int .i64 0, .int .i64 50, .int .i64 255, .int .i64 256] 2) hP
              have hcl : ∀ i, wl.cell? ⟨b, i, none⟩ = (#[Value.int .i64 0, .int .i64 50, .int .i64 255, .int .i64 256] : Array Value)[i]? := fun i => by rw [hwl, hb]; exact World.cell?_alloc_new _ _ _ i
              have hbp : some b ≠ some p := by have := hP.src.lt; simp; omega
              have hbo : some b ≠ (Value.slice aS l0.length cS).ownBlock := fun e => by have := (hP.own.lt b e.symm).2; omega
              rw [← hwl] at hP'
              clear hwl hb hP
              have hP := hP'
              clear hP'
              obtain ⟨xx, hxx⟩ : ∃ xx, wl.cell? ⟨b, q, none⟩ = some (.int .i64 xx) := by
                rcases (show q = 0 ∨ q = 1 ∨ q = 2 ∨ q = 3 by omega) with rfl | rfl | rfl | rfl
                · exact ⟨0, hcl 0⟩
                · exact ⟨50, hcl 1⟩
                · exact ⟨255, hcl 2⟩
                · exact ⟨256, hcl 3⟩
              have hqi : (q : Int) < 4 := by omega
              obtain ⟨S, hSd⟩ : ∃ S : World → Prop, S = fun u => u.cell? ⟨b, q, none⟩ = some (.int .i64 xx) := ⟨_, rfl⟩
              have hSS : S wl := by rw [hSd]; exact hxx
              have HSG : Hid (∀ (u v : World) (row : Option Nat), S u → u.grownBy v row → some b ≠ row → S v) := Lib.hid (fun u v row h hg hr => by rw [hSd] at h ⊢; exact hg.cell h hr)
              clear hxx
              refine Till.less (S' := S) (fun _ _ => trivial) _ _ _ _ ?_
              refine Till.take (i := 4) (v := .pointer (some ⟨b, q, none⟩)) rfl rfl rfl rfl (by kernel_rfl) (by kernel_rfl) (by kernel_rfl) (by kernel_rfl) hSS (fun u hu => by go_simp) ?_
              simp only [Act.put, List.getElem_toArray, List.getElem_cons_zero, List.getElem_cons_succ, List.setIfInBounds_toArray, List.set_cons_zero, List.set_cons_succ]
              refine Till.take (i := 5) (v := .int .i64 xx) rfl rfl rfl rfl (by kernel_rfl) (by kernel_rfl) (by kernel_rfl) (by kernel_rfl) hSS (fun u hu => by rw [hSd] at hu; go_simp) ?_
              simp only [Act.put, List.getElem_toArray, List.getElem_cons_zero, List.getElem_cons_succ, List.setIfInBounds_toArray, List.set_cons_zero, List.set_cons_succ]
              refine Till.value (i := 10) (v := .agg #[.int .i64 xx, .string tt]) (w' := wl) (by kernel_rfl) rfl rfl rfl (by go_simp) (fun _ => hSS) ?_
              simp only [Act.put, List.getElem_toArray, List.getElem_cons_zero, List.getElem_cons_succ, List.setIfInBounds_toArray, List.set_cons_zero, List.set_cons_succ]
              refine Till.lit (i := 11) (m := 1) (ob := .cells #[.int .i64 xx, .string tt] 43) (by kernel_rfl) rfl rfl rfl (by go_simp) (fun b2 wm hb2 hwm => ?_)
              have hPm := HPA.out _ (.cells #[.int .i64 xx, .string tt] 43) hP
              rw [← hwm] at hPm
              have hSm : S wm := HSG.out _ _ none hSS (by rw [hwm]; exact World.grownBy_alloc _ _ _) (by simp)
              have hnews := cell_two_new wl (.int .i64 xx) (.string tt) 43
              rw [← hwm, ← hb2] at hnews
              have hszm := hPm.sz
              obtain ⟨v4, w6, hrun, hown6, hg6, _⟩ := run_append_own (P := Tryz.prog) wm w2.heap.size 25 25 43 i0 (.agg #[.int .i64 0, .string ByteArray.empty]) 2 24 Tryz.underlying25 hi hz0 hz1 hz2 rfl (by decide) _ l0.length _ hPm.own ⟨b2, 0, none⟩ 1 1 [.int .i64 xx, .string tt] rfl hnews (fun u hu => by simp at hu; rcases hu with rfl | rfl <;> rfl) (by unfold maxLen; omega) (by omega) hszm
              rw [← HFL.out] at hown6
              have HF := Lib.hid (HFIN.out _ _ xx tt v4 hPm htz hown6 hg6)
              have hS6 : S w6 := HSG.out _ _ _ hSm hg6 hbo
              refine ⟨fun _ => hSm, ?_⟩
              simp only [Act.put, List.getElem_toArray, List.getElem_cons_zero, List.getElem_cons_succ, List.setIfInBounds_toArray, List.set_cons_zero, List.set_cons_succ]
              refine Till.value (i := 12) (v := v4) (w' := w6) (by kernel_rfl) rfl rfl rfl (run_op_append (.tmp 30) (.tmp 41) 25 rfl hrun) (fun _ => hS6) ?_
              simp only [Act.put, List.getElem_toArray, List.getElem_cons_zero, List.getElem_cons_succ, List.setIfInBounds_toArray, List.set_cons_zero, List.set_cons_succ]
              refine Till.value (i := 13) (v := v4) (w' := w6) (by kernel_rfl) rfl rfl rfl (by go_simp) (fun h => absurd rfl h) ?_
              simp only [Act.put, List.getElem_toArray, List.getElem_cons_zero, List.getElem_cons_succ, List.setIfInBounds_toArray, List.set_cons_zero, List.set_cons_succ]
              refine Till.done (by kernel_rfl) ?_ _
              clear hrun hown6 hg6 hnews hSm hS6 hSS hSd
              go_wp2_with fail
              go_meet
              case rel => exact ⟨_, by rw [List.length_append]; simp; omega, HF.out⟩
      · skip
        go_wp2_with fail
        go_meet
        case rel => exact ⟨l0, by omega, HP1.out⟩
  case rest =>
    obtain ⟨l, hl22', hPu⟩ := hcut
    clear HP1
    obtain ⟨au, cu, hu4⟩ := own_shape hPu.own
    subst hu4
    have HPU := Lib.hid hPu
    have HTX : Hid (∀ t, t < l.length → (l.getD t shD).2.size ≤ maxLen) := Lib.hid (fun t ht => Nat.le_trans (hPu.txt t ht) (by decide))
    clear hPu
    by_cases h1l : 1 < l.length
    · go_wp2_with fail
      refine (one_c p cb co sl sc sa 3 _ HPU.out.src (by omega)).mono ?_
      rintro e w5 ⟨b, rfl, hD, hz⟩
      have HP5 := Lib.hid (own_drawn HPU.out.own hD.gr hp2)
      have HG5 := Lib.hid (grownBy_trans HPU.out.gr hD.gr)
      have HS5 := Lib.hid hD.src
      clear hD hz
      cases b
      · have HF := Lib.hid (HB1.out.grown HG5.out HB1.out.size (fun k e => by cases e; exact hp))
        go_wp2_with fail
        go_ret
        exact ⟨au, l.length, cu, l, rfl, by omega, HR.own HP5.out, HTX.out, HF.out⟩
      · go_wp2_with fail
        refine (n_c p cb co sl sc sa (l.length : Int) _ HS5.out (by omega)).mono ?_
        rintro e w6 ⟨q, rfl, q0, q1, hS1, hg, hz⟩
        obtain ⟨k, rfl⟩ := Int.eq_ofNat_of_zero_le q0
        have hk : k < l.length := by omega
        have HR6 := HR.own (own_drawn HP5.out hg hp2)
        obtain ⟨g, o, hau, _, _, _⟩ := HR.at HR6 hk
        subst hau
        have HRD := Lib.hid (SR.drop HR6 hk)
        have hle := HR6.le
        have hsl : ∀ W : World, (Instr.slice 25 (.slice (some ⟨g, o, none⟩) l.length cu) (some (.int .i64 (k : Int))) none none).run Tryz.prog W = .ok (.slice (some ⟨g, o + k * 2, none⟩) (l.length - k) (cu - k)) W := fun W => run_cut_shares W g o l.length cu k hk hle
        have HF := Lib.hid (HB1.out.grown (grownBy_trans HG5.out hg) HB1.out.size (fun k e => by cases e; exact hp))
        have HTD : Hid (∀ t, t < l.length - k → ((l.drop k).getD t shD).2.size ≤ maxLen) := Lib.hid (fun t ht => by
          have e : (l.drop k).getD t shD = l.getD (k + t) shD := by simp [List.getD]
          rw [e]
          exact HTX.out _ (by omega))
        clear q0 q1 hS1 hg hz HR6
        go_wp2_with fail
        go_ret
        exact ⟨_, _, _, l.drop k, rfl, by omega, HRD.out, HTD.out, HF.out⟩
    · have HF := Lib.hid (HB1.out.grown HPU.out.gr HB1.out.size (fun k e => by cases e; exact hp))
      go_wp2_with fail
      go_ret
      exact ⟨au, l.length, cu, l, rfl, by omega, HR.own HPU.out.own, HTX.out, HF.out⟩
  end Go.Proofs.YtdnbkjiijpeiiaaGreat
