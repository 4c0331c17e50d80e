/- What the law about parts wants besides: boxes, rows of parts that are appended, regions of which one of two or three may come up. -/
import Derived.Test.YtdnbkjiijpeiiaaGreatDrawSB
import Derived.Test.YtdnbkjiijpeiiaaGreatDrawSC
import Derived.Test.YtdnbkjiijpeiiaaGreatFactsS
namespace Go.Proofs.YtdnbkjiijpeiiaaGreat.Till
open Go
section
variable {P : Program} {ops : Array Oper} {md : Region.Mode} {S : World → Prop} {R : Act → World → Prop}
theorem opT_new {i : Nat} {o : Oper} {a : Act} {w : World} {ob : Obj} {K : Act → World → Prop} (ho : ops[i]? = some o) (hg : o.guard = none) (hd : isDefer o.op = false) (he : (execOp a.eval o).run P w = .ok (.value (.pointer (some ⟨w.heap.size, 0, none⟩))) (w.alloc ob))
    (h : ∀ (b : Nat) (w' : World), b = w.heap.size → w' = w.alloc ob → K (a.put o.dst (.pointer (some ⟨b, 0, none⟩))) w') : opT P ops i K a w :=
  ⟨o, ho, hg, not_defer hd, by rw [he]; exact h _ _ rfl rfl⟩
theorem one {i t : Nat} {k : Nat} {listed : Array Bool} {a : Act} {w : World} (hr : Region.ready md ops listed = [i])
    (h1 : opT P ops i (fun a' w' => (i ≠ t → S w') ∧ wpT P md ops S t R k (listed.setIfInBounds i true) a' w') a w) : wpT P md ops S t R (k + 1) listed a w := by
  refine ⟨fun h0 => (by rw [hr] at h0; cases h0), fun m hm => ?_⟩
  rw [hr] at hm
  obtain rfl : m = i := by simpa using hm
  exact h1
/-- One of three may come up. -/
theorem three {i j l t : Nat} {k : Nat} {listed : Array Bool} {a : Act} {w : World} (hr : Region.ready md ops listed = [i, j, l])
    (h1 : opT P ops i (fun a' w' => (i ≠ t → S w') ∧ wpT P md ops S t R k (listed.setIfInBounds i true) a' w') a w)
    (h2 : opT P ops j (fun a' w' => (j ≠ t → S w') ∧ wpT P md ops S t R k (listed.setIfInBounds j true) a' w') a w)
    (h3 : opT P ops l (fun a' w' => (l ≠ t → S w') ∧ wpT P md ops S t R k (listed.setIfInBounds l true) a' w') a w) : wpT P md ops S t R (k + 1) listed a w := by
  refine ⟨fun h0 => (by rw [hr] at h0; cases h0), fun m hm => ?_⟩
  rw [hr] at hm
  simp only [List.mem_cons, List.not_mem_nil, or_false] at hm
  rcases hm with rfl | rfl | rfl
  · exact h1
  · exact h2
  · exact h3
end
end Go.Proofs.YtdnbkjiijpeiiaaGreat.Till
namespace Go.Proofs.YtdnbkjiijpeiiaaGreat
open Go.RowKit Go.PlainAid G MGF IRow
set_option linter.unusedVariables false
/-- A struct of two cells in its block. -/
structure XB (w : World) (h : Nat) (x y : Value) : Prop where
  lt : h < w.heap.size
  c0 : w.cell? ⟨h, 0, none⟩ = some x
  c1 : w.cell? ⟨h, 1, none⟩ = some y
  z0 : w.frozen? ⟨h, 0, none⟩ = false
  z1 : w.frozen? ⟨h, 1, none⟩ = false
theorem XB.below {w w' : World} {h : Nat} {x y : Value} (k : XB w h x y) (hb : Below w.heap.size w w') : XB w' h x y :=
  ⟨Nat.lt_of_lt_of_le k.lt hb.size, (hb.cell (p := ⟨h, 0, none⟩) k.lt).trans k.c0, (hb.cell (p := ⟨h, 1, none⟩) k.lt).trans k.c1, (hb.frozen (p := ⟨h, 0, none⟩) k.lt).trans k.z0, (hb.frozen (p := ⟨h, 1, none⟩) k.lt).trans k.z1⟩
theorem XB.made (w : World) (x y : Value) (e : TypeId) : XB (w.alloc (.cells #[x, y] e)) w.heap.size x y := by
  have h := box_cells (box_made w x y e)
  exact ⟨by simp, h.1, h.2, by simp, by simp⟩
theorem XB.other {w : World} {h b i : Nat} {x y v : Value} (k : XB w h x y) (hne : h ≠ b) : XB (w.setCell ⟨b, i, none⟩ v) h x y :=
  ⟨by simpa using k.lt, (grown_set w b i v).cell k.c0 (by simpa using hne), (grown_set w b i v).cell k.c1 (by simpa using hne), by simpa using k.z0, by simpa using k.z1⟩
theorem XB.put {w : World} {h : Nat} {x y u v : Value} (k : XB w h x y) : XB ((w.setCell ⟨h, 0, none⟩ u).setCell ⟨h, 1, none⟩ v) h u v := by
  obtain ⟨h0, h1⟩ := box_put (x := u) (y := v) k.c0 k.c1
  exact ⟨by simpa using k.lt, h0, h1, by simpa using k.z0, by simpa using k.z1⟩
theorem HR.set {w : World} {g o n cap b i : Nat} {v : Value} {l : List (Int × ByteArray)} (h : HR w (some ⟨g, o, none⟩) n cap l) (hne : g ≠ b) : HR (w.setCell ⟨b, i, none⟩ v) (some ⟨g, o, none⟩) n cap l :=
  SR.grown h (grown_set w b i v) (fun _ g' o' e => by cases e; simpa using hne)
/-- 'append(s, x...)', s the call's own, x any row of parts. -/
theorem append_parts {P : Program} {w : World} {ops : Array Oper} {rest : List Oper} {o : Oper} {a : Act} {Q : Exit → Act → World → Prop} (hgd : o.guard = none) (s x : Operand) (t : TypeId)
    (ho : o.op = .call { callee := .builtin .append, args := #[s, x], argTypes := #[t, t] })
    (e : TypeId) (i : TypeInfo) (z : Value) (ht : P.underlying t = some (.slice e)) (hi : P.info? e = some i) (hz : i.zero = some z) (hsize : i.size = 2) (hby : i.bytes = 24) (hzs : z.cells.size = 2)
    (base : Nat) (v : Value) (n : Nat) (ps : List (Int × ByteArray)) (hs : a.eval s = v) (hown : w.ownsRow base e shE.k v n (shE.flat ps))
    (ad : Addr) (m c : Nat) (qs : List (Int × ByteArray)) (hx : a.eval x = .slice (some ad) m c) (hr : HR w (some ad) m c qs) (hn : n + m ≤ 1000) (hbase : base ≤ w.heap.size)
    (h : ∀ v' w', w'.ownsRow base e shE.k v' (n + m) (shE.flat (ps ++ qs)) → w.grownBy w' v.ownBlock → wpList P ops Q rest (a.put o.dst v') w') : wpList P ops Q (o :: rest) a w := by
  have hql := hr.len
  refine wpList_append_own w hgd s x t ho base e i z 2 24 ht hi hz hsize hby hzs (by decide) v n (shE.flat ps) hs hown ad m c (shE.flat qs) hx (by rw [Enc.flat_length, hql]; rfl) (hr.news ad rfl) (Enc.flat_one shE qs) (by unfold maxLen; omega) (by omega) hbase (fun v' w' h1 h2 _ => h v' w' (by rw [Enc.flat_append]; exact h1) h2)
/-- 's[:k]' of parts. -/
theorem run_cut_to (W : World) (b o len cap k : Nat) (hl : k ≤ cap) :
    (Instr.slice 25 (.slice (some ⟨b, o, none⟩) len cap) none (some (.int .i64 (k : Int))) none).run Tryz.prog W = .ok (.slice (some ⟨b, o, none⟩) k cap) W := by
  have ht := Tryz.underlying25
  have ht' : Tryz.prog.underlying 25 = some (.slice (Tryz.prog.elem 25)) := by simp [Program.elem, ht]
  have he : Tryz.prog.elem 25 = 43 := by simp [Program.elem, ht]
  rw [run_slice_h W 25 _ _ _ ht' .i64 _ (by omega) (by omega), he, sizeOfShare]
  simp [Result.andThen, sliced, Addr.add]
/-- 's[:k]' of a text. -/
theorem run_head_str (W : World) (s : ByteArray) (k : Nat) (hk : k ≤ s.size) :
    (Instr.slice 9 (.string s) none (some (.int .i64 (k : Int))) none).run Tryz.prog W = .ok (.string (s.extract 0 k)) W := by
  have ht := Tryz.underlying9
  simp [ht, run_slice_string_h, hk]
theorem Good.fits {s d : ByteArray} {k : Nat} {l : List (Int × ByteArray)} (h : Good s d k l) (hs : s.size ≤ 16) (t : Nat) (ht : t < l.length) : (l.getD t shD).2.size ≤ maxLen := by
  rw [getD_mem shD ht, (h.size l[t] (List.getElem_mem ht)).2.2]
  exact Nat.le_trans hs (by unfold maxLen; omega)
theorem split_tells {s d : ByteArray} {need many : Int} {r : List (Int × ByteArray)} (h : splitR s need many d = (r, 0)) : SplitOk s need many d ∧ r = partsT (polysT (tb s) (tb d) (kOf need)) many.toNat := by
  by_cases h0 : splitC s need many d = 0
  · rw [splitR_yes h0] at h
    cases h
    exact ⟨splitC_zero h0, rfl⟩
  · rw [splitR_no rfl h0] at h
    simp only [Prod.mk.injEq] at h
    exact absurd h.2 h0
theorem hide_tells {s o d t : ByteArray} {need : Int} {xs : List Int} (h : hideR s o need xs d = (t, 0)) : ∃ ys, HideOk s o need xs d ys ∧ t = tx (hideL (tb s) (tb o) (tb d) ys (kOf need) s.size) := by
  by_cases h0 : hideC s o need xs d = 0
  · obtain ⟨ys, hOk⟩ := hideC_zero h0
    rw [hideR_yes h0, hOk.xs, map_ib_pv] at h
    cases h
    exact ⟨ys, hOk, rfl⟩
  · rw [hideR_no rfl h0] at h
    simp only [Prod.mk.injEq] at h
    exact absurd h.2 h0
theorem rev_take {l : List (Int × ByteArray)} {n t j : Nat} (hn : l.length = n) (ht : t < n) (hj : j + t + 1 = n) : l.reverse.take (t + 1) = l.reverse.take t ++ [l.getD j shD] := by
  have hl : t < l.reverse.length := by rw [List.length_reverse]; omega
  rw [← List.take_append_getElem hl, List.getElem_reverse, getD_mem shD (by omega)]
  congr 3
  omega
/-- A number among places that are no more than 20. -/
theorem place_of {ys : List B} (h0 : ∀ x ∈ ys, x ≠ 0) {j : Nat} (hj : j < ys.length) : ∃ x, x ∈ ys ∧ (pv ys).getD j 0 = bi x ∧ 1 ≤ bi x := by
  have hm : ys[j] ∈ ys := List.getElem_mem hj
  refine ⟨ys[j], hm, ?_, ?_⟩
  · rw [pv_getD]; unfold cf; rw [getD_mem _ hj]
  · have h1 := h0 _ hm
    have h2 := bi_range ys[j]
    have h3 : bi ys[j] ≠ 0 := fun e => h1 (bi_inj (e.trans bi_zero.symm))
    omega
end Go.Proofs.YtdnbkjiijpeiiaaGreat
