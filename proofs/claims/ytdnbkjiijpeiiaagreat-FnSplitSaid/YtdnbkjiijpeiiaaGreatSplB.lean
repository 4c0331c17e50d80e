/- The bytes of a text: by runes where it is plain, else at once. -/
import Derived.Test.YtdnbkjiijpeiiaaGreatSplA
import Derived.Test.YtdnbkjiijpeiiaaGreatDrawA
import Derived.Lib.OthersKept
import Derived.WalkSmall
namespace Go.Proofs.YtdnbkjiijpeiiaaGreat
open Go.RowKit Go.PlainAid G MGF IRow
set_option linter.unusedVariables false
def PlainP (t : ByteArray) (w : World) (e : Ending) (w' : World) : Prop := ∃ b, e = .returned (.bool b) ∧ (b = true → ∀ i (h : i < t.size), (t[i]'h).toNat < 128) ∧ w = w'
set_option maxRecDepth 100000 in
theorem isPlain_any (t : ByteArray) (w : World) (ht : t.size ≤ 1048576) :
    Calls Tryz.prog 71 #[.string t] w (PlainP t w) := by
  go_enter Tryz.func71, Tryz.ntmps71
  go_wp2_with fail
  go_loop [6] (fun i => ∃ k : Nat, k ≤ t.size ∧ i = .int .i64 k ∧ ∀ j (h : j < t.size), j < k → (t[j]'h).toNat < 128) (fun i => t.size - (intOf i).toNat)
  case atStart => exact ⟨0, Nat.zero_le _, rfl, fun j h h0 => absurd h0 (by omega)⟩
  case round =>
    obtain ⟨k, hk, rfl, hpl⟩ := hrel
    have HP := Lib.hid hpl
    clear hpl
    by_cases hlt : k < t.size
    · by_cases hx : (t[k]'hlt).toNat < 128
      · have HN : Hid (∀ j (h : j < t.size), j < k + 1 → (t[j]'h).toNat < 128) := Lib.hid (fun j h hj => by
          by_cases e : j = k
          · subst e; exact hx
          · exact HP.out j h (by omega))
        go_wp2_with fail
        go_round
        case rel => exact ⟨k + 1, by omega, by go_num, HN.out⟩
        case measure => simp [intOf]; omega
      · go_wp2_with fail
        go_ret
        exact ⟨false, rfl, (fun h => by cases h), rfl⟩
    · have HN : Hid (∀ j (h : j < t.size), (t[j]'h).toNat < 128) := Lib.hid (fun j h => HP.out j h (by omega))
      go_wp2_with fail
      go_ret
      exact ⟨true, rfl, fun _ => HN.out, rfl⟩
/-- An owned row does not lie where an iterator lies. -/
theorem own_iterAt {w : World} {base : Nat} {e : TypeId} {size : Nat} {v : Value} {n : Nat} {xs : List Value} (h : w.ownsRow base e size v n xs) {k : Nat} {s : ByteArray} {p : Nat} (hk : w.heap[k]? = some (.stringIter s p)) (q : Nat) : (w.iterAt k s q).ownsRow base e size v n xs := by
  refine ⟨h.1, ?_⟩
  rcases h.2 with h2 | ⟨g, cap, cur, a, b, c, d⟩
  · exact .inl h2
  · refine .inr ⟨g, cap, cur, a, b, ?_, d⟩
    rw [Lib.iterAt_other _ _ _ _ _ (fun e1 => by rw [e1, hk] at c; cases c)]
    exact c
theorem own_ne_iter {w : World} {base : Nat} {e : TypeId} {size : Nat} {v : Value} {n : Nat} {xs : List Value} (h : w.ownsRow base e size v n xs) {k : Nat} {s : ByteArray} {p : Nat} (hk : w.heap[k]? = some (.stringIter s p)) : some k ≠ v.ownBlock := by
  intro e1
  rcases h.2 with ⟨rfl, _⟩ | ⟨g, cap, cur, rfl, b, c, d⟩
  · cases e1
  · simp only [Value.ownBlock, Option.some.injEq] at e1
    rw [← e1, hk] at c
    cases c
theorem tb_take {t : ByteArray} {k : Nat} (h : k < t.size) : pv ((tb t).take (k + 1)) = pv ((tb t).take k) ++ [((t[k]'h).toNat : Int)] := by
  have hl : k < (tb t).length := by rw [tb_length]; exact h
  rw [← List.take_append_getElem hl, pv, List.map_append]
  congr 1
  have e := tb_cf t h
  unfold cf at e
  rw [getD_mem _ hl] at e
  simp [e]
set_option maxRecDepth 100000 in
set_option maxHeartbeats 1600000 in
theorem bytesOf_any (f : Nat) (t : ByteArray) (w : World) (hf : f < w.heap.size) (ht : t.size ≤ 1048576) :
    Calls Tryz.prog 52 #[.string t] w fun e w' => ∃ a n c, e = .returned (.slice a n c) ∧ BR f w' a n c (tb t) ∧ Below w.heap.size w w' := by
  obtain ⟨i0, hi, hz0, hz1, hz2⟩ := info_parts infoU8
  go_enter Tryz.func52, Tryz.ntmps52
  go_wp2_with fail
  refine (isPlain_any t _ ht).mono ?_
  rintro e w1 ⟨b, rfl, hb, rfl⟩
  have HP := Lib.hid hb
  clear hb
  cases b
  · have hcv := Lib.run_convert_string_bytes (P := Tryz.prog) w 9 22 5 t Tryz.underlying9 Tryz.underlying22 Tryz.underlying5
    have HBR := Lib.hid (bytes_br f w 5 t hf)
    have HBB := Lib.hid (below_bytes w 5 t)
    go_wp2_with fail
    go_ret
    exact ⟨_, _, _, rfl, HBR.out, HBB.out⟩
  · have hpl := HP.out rfl
    have HPL := Lib.hid hpl
    clear hpl HP
    go_wp2_with (at_make; refine wpList_make_own _ rfl (.const (.int .i64 0)) (.tmp 12) 22 rfl w.heap.size 5 i0 (.int .u8 0) 1 Tryz.underlying22 hi hz0 hz1 .i64 .i64 _ t.size rfl rfl rfl (by rw [hz2]; omega) (by unfold maxLen; omega) (Nat.le_refl _) ?_; intro w2 hown2 hg2)
    have HO2 := Lib.hid (hown2.alloc (.stringIter t 0))
    have HB2 := Lib.hid ((below_of_none hg2).alloc (o := .stringIter t 0) (below_of_none hg2).size)
    have hit := World.iter_heap w2 t 0
    have hs2 : w.heap.size ≤ w2.heap.size := (below_of_none hg2).size
    have HIT := Lib.hid hit
    clear hown2 hg2 hit
    go_loopw [3] (fun v wr => ∃ k : Nat, k ≤ t.size ∧ wr.heap[w2.heap.size]? = some (.stringIter t k) ∧ wr.ownsRow w.heap.size 5 1 v k ((pv ((tb t).take k)).map (Value.int .u8)) ∧ Below w.heap.size w wr) (fun _ wr => t.size - wr.iterPos w2.heap.size)
    case atStart => exact ⟨0, Nat.zero_le _, HIT.out, by show (w2.alloc _).ownsRow _ _ _ _ _ _; simpa [pv] using HO2.out, HB2.out⟩
    case round =>
      obtain ⟨k, hk, hit, hown, hbw⟩ := hrel
      have hpos0 := iterPos_of hit
      have HB := Lib.hid hbw
      by_cases hlt : k < t.size
      · have hnx : ∀ ty, (Instr.next (.pointer (some ⟨w2.heap.size, 0, none⟩)) true ty).run Tryz.prog wr = _ := fun ty => Lib.run_next_ascii_at wr w2.heap.size t k ty hit hlt (HPL.out k hlt)
        have hit2 := Lib.iterAt_heap wr w2.heap.size t k (k + 1) hit
        have hbw2 := Lib.below_iterAt hbw (k := w2.heap.size) hs2 t (k + 1)
        have hown2 := own_iterAt hown hit (k + 1)
        have HTT := Lib.hid (tb_take hlt)
        have hlo : ((t[k]'hlt).toNat : Int) < 128 := by have := HPL.out k hlt; omega
        have hlo0 : 0 ≤ ((t[k]'hlt).toNat : Int) := by omega
        generalize ((t[k]'hlt).toNat : Int) = x at *
        obtain ⟨W1, hW1⟩ : ∃ W1, W1 = wr.iterAt w2.heap.size t (k + 1) := ⟨_, rfl⟩
        rw [← hW1] at hnx hit2 hbw2 hown2
        have hw8 : IntKind.u8.wrap x = x := by rw [IntKind.wrap_u8]; omega
        have hsz := hbw2.size
        clear hW1 hit hown hbw HB
        have HIT2 := Lib.hid hit2
        have HBW2 := Lib.hid hbw2
        clear hit2 hbw2
        go_wp2_with (at_builtin; refine append_one_g rfl (.tmp 19) (.tmp 22) 22 rfl 5 i0 (.int .u8 0) 1 Tryz.underlying22 hi hz0 hz1 hz2 rfl w.heap.size _ _ _ rfl hown2 (.int .u8 x) _ rfl rfl hsz (by unfold maxLen; omega) (by omega) ?_; intro v' w4 hown4 hg4; have HO4 := Lib.hid hown4; have HIT4 := Lib.hid ((hg4.block w2.heap.size (Array.getElem?_eq_some_iff.1 HIT2.out).1 (own_ne_iter hown2 HIT2.out)).trans HIT2.out); have HB4 := Lib.hid (below_grow HBW2.out hown2 (Nat.le_refl _) hg4 hsz); clear hown4 hg4 hown2)
        go_roundw
        case rel => exact ⟨k + 1, by omega, HIT4.out, by rw [HTT.out, List.map_append]; exact HO4.out, HB4.out⟩
        case measure => rw [iterPos_of HIT4.out, hpos0]; omega
      · obtain rfl : k = t.size := by omega
        have hnx : ∀ ty, (Instr.next (.pointer (some ⟨w2.heap.size, 0, none⟩)) true ty).run Tryz.prog wr = _ := fun ty => Lib.run_next_end_at wr w2.heap.size t t.size ty hit hlt
        rw [List.take_of_length_le (by rw [tb_length]; exact Nat.le_refl _)] at hown
        obtain ⟨a, c, rfl⟩ := own_shape hown
        have HBR := Lib.hid (BR.own hown hf)
        clear hit hown hbw
        go_wp2_with fail
        go_ret
        exact ⟨_, _, _, rfl, HBR.out, HB.out⟩
end Go.Proofs.YtdnbkjiijpeiiaaGreat
/- The curves of a secret, each of its own draws. -/
namespace Go.Proofs.YtdnbkjiijpeiiaaGreat
open Go.RowKit Go.PlainAid G MGF IRow
set_option linter.unusedVariables false
/-- A row of curves. -/
structure Cvs (f : Nat) (w : World) (a : Option Addr) (n cap : Nat) (g : Nat → B → B) : Prop where
  le : n ≤ cap
  nil : a = none → cap = 0
  cells : 0 < n → ∃ gb o, a = some ⟨gb, o, none⟩ ∧ gb < w.heap.size ∧ gb ≠ f ∧ ∀ i, i < n → ∃ v D, w.cell? ⟨gb, o + i, none⟩ = some v ∧ Cv f D w v (g i)
theorem Cvs.grown {f : Nat} {w w' : World} {a : Option Addr} {n cap : Nat} {g : Nat → B → B} (h : Cvs f w a n cap g) (hg : w.grownBy w' (some f)) : Cvs f w' a n cap g := by
  refine ⟨h.le, h.nil, fun hn => ?_⟩
  obtain ⟨gb, o, ha, hl, hne, hc⟩ := h.cells hn
  refine ⟨gb, o, ha, Nat.lt_of_lt_of_le hl hg.size, hne, fun i hi => ?_⟩
  obtain ⟨v, D, hv, hk⟩ := hc i hi
  exact ⟨v, D, hg.cell hv (fun e => hne (by simpa using e)), hk.grown hg⟩
theorem Cvs.below {f : Nat} {w w' : World} {a : Option Addr} {n cap : Nat} {g : Nat → B → B} (h : Cvs f w a n cap g) (hb : Below w.heap.size w w') : Cvs f w' a n cap g := h.grown (fg_below hb)
theorem Cvs.own {f : Nat} {w : World} {base n cap : Nat} {a : Option Addr} {e : TypeId} {vs : List Value} {g : Nat → B → B} (h : w.ownsRow base e 1 (.slice a n cap) n vs) (hf : f < base) (hv : ∀ i, i < n → ∃ D, Cv f D w (vs.getD i undef) (g i)) : Cvs f w a n cap g := by
  have hl : vs.length = n := by have := h.1; simpa using this
  have hle : n ≤ cap ∧ (a = .none → cap = 0) := by
    rcases h.2 with ⟨hv, h0⟩ | ⟨g, c, cur, hv, _, _, hnc, _⟩
    · simp only [Value.slice.injEq] at hv
      obtain ⟨rfl, rfl, rfl⟩ := hv
      exact ⟨Nat.le_refl _, fun _ => rfl⟩
    · simp only [Value.slice.injEq] at hv
      obtain ⟨rfl, _, rfl⟩ := hv
      exact ⟨hnc, fun h => by cases h⟩
  refine ⟨hle.1, hle.2, fun hn => ?_⟩
  obtain ⟨g, cap', hv', hb, hg⟩ := h.form hn
  simp only [Value.slice.injEq] at hv'
  obtain ⟨rfl, _, rfl⟩ := hv'
  refine ⟨g, 0, rfl, hg, by omega, fun i hi => ?_⟩
  obtain ⟨D, hD⟩ := hv i hi
  refine ⟨vs.getD i undef, D, ?_, hD⟩
  rw [Nat.zero_add, h.cellAt i (by omega)]
  simp [List.getD, List.getElem?_eq_getElem (show i < vs.length by omega)]
/-- The draws that are left behind so many bytes. -/
def left (d : ByteArray) (m : Nat) : ByteArray := d.extract m d.size
theorem left_size (d : ByteArray) (m : Nat) : (left d m).size = d.size - m := by unfold left; rw [ByteArray.size_extract]; omega
theorem left_zero (d : ByteArray) : left d 0 = d := by
  unfold left
  apply ByteArray.ext
  simp
theorem left_left (d : ByteArray) (m k : Nat) : (left d m).extract k (left d m).size = left d (m + k) := by
  rw [left_size]
  unfold left
  apply ByteArray.ext
  simp only [ByteArray.data_extract, Array.extract_extract]
  congr 1
  have : d.data.size = d.size := rfl
  omega
theorem tb_extract (d : ByteArray) (a b : Nat) : tb (d.extract a b) = ((tb d).drop a).take (b - a) := by
  unfold tb
  rw [← List.map_drop, ← List.map_take]
  congr 1
  simp [ByteArray.data_extract, List.extract_eq_take_drop]
theorem tb_row (d : ByteArray) (k i : Nat) : tb ((left d (i * k)).extract 0 k) = rowD (tb d) k i := by
  rw [tb_extract]
  unfold left rowD
  rw [tb_extract, List.drop_zero, Nat.sub_zero, ← tb_length d, ← List.length_drop, List.take_length]
/-- 's = append(s, u)', u of one cell, s the call's own; where the new row lies. -/
theorem append_one_at {P : Program} {w : World} {ops : Array Oper} {rest : List Oper} {o : Oper} {a : Act} {Q : Exit → Act → World → Prop} (hgd : o.guard = none) (s x : Operand) (t : TypeId)
    (ho : o.op = .call { callee := .builtin .append, args := #[s, x], argTypes := #[t, t] })
    (e : TypeId) (i : TypeInfo) (z : Value) (bytes : Nat) (ht : P.underlying t = some (.slice e)) (hi : P.info? e = some i) (hz : i.zero = some z)
    (hsize : i.size = 1) (hby : i.bytes = bytes) (hzs : z.cells.size = 1)
    (B : Nat) (v : Value) (n : Nat) (xs : List Value) (hs : a.eval s = v) (hown : w.ownsRow B e 1 v n xs) (u : Value) (e' : TypeId) (hu : u.oneCell' = true)
    (hx : a.eval x = .slice (some ⟨w.heap.size, 0, none⟩) 1 1) (hB : B ≤ w.heap.size)
    (h63 : n + 1 ≤ maxLen) (hbytes : (n + 1) * bytes ≤ 140737488355328)
    (h : ∀ v' w', w'.ownsRow B e 1 v' (n + 1) (xs ++ [u]) → w.grownBy w' v.ownBlock → (v'.ownBlock = v.ownBlock ∨ ∃ g, v'.ownBlock = some g ∧ w.heap.size ≤ g) → wpList P ops Q rest (a.put o.dst v') w') : wpList P ops Q (o :: rest) a (w.alloc (.cells #[u] e')) := by
  refine wpList_append_own_at _ hgd s x t ho B e i z 1 bytes ht hi hz hsize hby hzs (by decide) v n xs hs (hown.alloc _) ⟨w.heap.size, 0, none⟩ 1 1 [u] hx rfl ?_ ?_ h63 hbytes (by simp; omega) ?_
  · intro j y hj
    match j, hj with
    | 0, hj => simp at hj; subst hj; simp [Addr.add]
  · intro y hy; simp at hy; subst hy; exact hu
  · intro v' w' h1 h2 _ h3
    refine h v' w' h1 (grown_trans (World.grownBy_alloc w _ _) h2) ?_
    rcases h3 with h3 | h3
    · exact .inl h3
    · exact .inr ⟨_, h3, by simp⟩
theorem infoCurve : (Tryz.prog.info? 79).map (fun i => (i.zero, i.size, i.bytes)) = some (some Value.nilFunc, 1, 8) := by kernel_rfl
theorem getD_snoc {vs : List Value} {v : Value} {t : Nat} (h : t ≤ vs.length) : (vs ++ [v]).getD t undef = if t < vs.length then vs.getD t undef else v := by
  by_cases h2 : t < vs.length
  · rw [if_pos h2]; simp [List.getD, List.getElem?_append_left h2]
  · rw [if_neg h2, show t = vs.length by omega]; simp [List.getD]
set_option maxRecDepth 100000 in
set_option maxHeartbeats 3200000 in
theorem curvesOf_any (f : Nat) (s d : ByteArray) (need : Int) (w : World) (hf : f < w.heap.size) (hn1 : 1 ≤ need) (hn2 : need ≤ 10) (hs : s.size ≤ 16) (hdr : s.size * kOf need ≤ d.size) (hd : d.size ≤ 8000) :
    Calls Tryz.prog 21 #[.pointer (some ⟨f, 0, none⟩), .string s, .int .i64 need, .string d] w fun e w' => ∃ a c, e = .returned (.slice a s.size c) ∧ Cvs f w' a s.size c (fun i x => ev (polyT (tb s) (tb d) (kOf need) i) x) ∧ Below w.heap.size w w' := by
  obtain ⟨k, hk⟩ : ∃ k, k = kOf need := ⟨_, rfl⟩
  have hkn : need - 1 = (k : Int) := by rw [hk]; unfold kOf; omega
  rw [← hk] at hdr ⊢
  have HKN := Lib.hid hkn
  have hk9 : k ≤ 9 := by omega
  clear hk hkn
  obtain ⟨i0, hi, hz0, hz1, hz2⟩ := info_parts infoCurve
  go_enter Tryz.func21, Tryz.ntmps21
  go_wp2_with fail
  refine (drawsEach_any need _ hn1 hn2).mono ?_
  rintro e w1 ⟨rfl, rfl⟩
  rw [HKN.out]
  go_wp2_with fail
  refine (bytesOf_any f s _ hf (by omega)).mono ?_
  rintro e w1 ⟨a, n, c, rfl, hbr, hb1⟩
  obtain rfl : n = s.size := by have := hbr.len; rw [tb_length] at this; exact this.symm
  have HBR := Lib.hid hbr
  have HB1 := Lib.hid hb1
  clear hbr hb1
  go_wp2_with fail
  go_loopw [3, 10, 18] (fun dr v i wr => ∃ (j : Nat) (vs : List Value), j ≤ s.size ∧ i = .int .i64 j ∧ dr = .string (left d (j * k)) ∧ wr.ownsRow w1.heap.size 79 1 v j vs ∧ (∀ t, t < j → ∃ D, Cv f D wr (vs.getD t undef) (fun x => ev (polyT (tb s) (tb d) k t) x) ∧ ∀ gr, v.ownBlock = some gr → ¬ D gr) ∧ Below w1.heap.size w1 wr) (fun _ _ i _ => s.size - (intOf i).toNat)
  case atStart => exact ⟨0, [], Nat.zero_le _, rfl, by rw [Nat.zero_mul, left_zero], World.ownsRow_nil _ _ _ _, fun t ht => absurd ht (by omega), Below.refl _ _⟩
  case round =>
    obtain ⟨j, vs, hj, rfl, rfl, hown, hcv, hbw⟩ := hrel
    have hbr := HBR.out.below hbw
    have hf1 : f < w1.heap.size := Nat.lt_of_lt_of_le hf HB1.out.size
    by_cases hlt : j < s.size
    · obtain ⟨g, o, rfl, hg, hne, hc⟩ := hbr.cells (by omega)
      have hck := hc j hlt
      have hlsz := left_size d (j * k)
      have hjk : j * k + k ≤ s.size * k := by rw [← Nat.succ_mul]; exact Nat.mul_le_mul_right k hlt
      have hkl : (k : Int) ≤ ((left d (j * k)).size : Int) := by omega
      have HPT : Hid (∀ x, cf (tb s) j ^^^ mul x (ev (tb ((left d (j * k)).extract 0 k)) x) = ev (polyT (tb s) (tb d) k j) x) := Lib.hid (fun x => by rw [tb_row, polyT_ev])
      have HLL : Hid ((left d (j * k)).extract k (left d (j * k)).size = left d ((j + 1) * k)) := Lib.hid (by rw [left_left, ← Nat.succ_mul])
      have hsz8 : ((left d (j * k)).extract 0 k).size ≤ 1048576 := by rw [ByteArray.size_extract]; omega
      have hfr : f < wr.heap.size := Nat.lt_of_lt_of_le hf1 hbw.size
      have HCV := Lib.hid hcv
      have HOWN := Lib.hid hown
      have HBW := Lib.hid hbw
      have hvl : vs.length = j := by have := hown.1; simpa using this
      have HVL := Lib.hid hvl
      generalize left d (j * k) = L at *
      generalize cf (tb s) j = x0 at *
      clear hcv hown hbw hbr hc hlsz hdr hjk hvl
      go_wp2_with fail
      refine (curveOf_any f x0 (L.extract 0 k) _ hfr hsz8).mono ?_
      rintro e w2 ⟨u, rfl, hu, hb2⟩
      have hown2 := own_below HOWN.out hb2
      have hsz2 : w1.heap.size ≤ w2.heap.size := Nat.le_trans HBW.out.size hb2.size
      have HU := Lib.hid hu
      have HB2 := Lib.hid hb2
      have HO2 := Lib.hid hown2
      have hone := hu.one
      obtain ⟨gf, lb, hue, _⟩ := hu.is
      subst hue
      clear hu hb2 hsz8 hfr
      go_wp2_with (at_builtin; refine append_one_at rfl (.tmp 22) (.tmp 29) 65 rfl 79 i0 Value.nilFunc 8 Tryz.underlying65 hi hz0 hz1 hz2 rfl w1.heap.size _ _ _ rfl hown2 (Value.func (.func gf) #[] lb) _ hone rfl hsz2 (by unfold maxLen; omega) (by omega) ?_; intro v' w4 hown4 hg4 hv4; have HO4 := Lib.hid hown4; have HG4 := Lib.hid hg4; have HV4 := Lib.hid hv4; clear hown4 hg4 hown2 hv4)
      have HN : Hid (∀ t, t < j + 1 → ∃ D, Cv f D w4 ((vs ++ [Value.func (.func gf) #[] lb]).getD t undef) (fun x => ev (polyT (tb s) (tb d) k t) x) ∧ ∀ gr, v'.ownBlock = some gr → ¬ D gr) := Lib.hid (fun t ht => by
        have hsb := HB2.out.size
        rw [getD_snoc (by rw [HVL.out]; omega), HVL.out]
        by_cases h1 : t < j
        · obtain ⟨D, hD, hn⟩ := HCV.out t h1
          rw [if_pos h1]
          refine ⟨D, (hD.below HB2.out).row HG4.out hn, fun gr hgr hd => ?_⟩
          rcases HV4.out with h4 | ⟨g4, h4, h5⟩
          · exact hn gr (h4 ▸ hgr) hd
          · rw [h4] at hgr
            have := (hD.lt gr hd).1
            simp only [Option.some.injEq] at hgr
            omega
        · rw [if_neg h1]
          obtain rfl : t = j := by omega
          have hu2 := HU.out.congr HPT.out
          refine ⟨_, hu2.row HG4.out (fun g hg hd => by have := (HOWN.out.lt g hg).2; omega), fun gr hgr hd => ?_⟩
          rcases HV4.out with h4 | ⟨g4, h4, h5⟩
          · have := (HOWN.out.lt gr (h4 ▸ hgr)).2
            omega
          · rw [h4] at hgr
            simp only [Option.some.injEq] at hgr
            omega)
      have HB4 := Lib.hid (below_grow (HBW.out.trans (HB2.out.mono HBW.out.size)) HO2.out (Nat.le_refl _) HG4.out hsz2)
      go_roundw
      case rel => exact ⟨j + 1, vs ++ [Value.func (.func gf) #[] lb], by omega, by go_num, by rw [HLL.out], HO4.out, HN.out, HB4.out⟩
      case measure => simp [intOf]; omega
    · obtain rfl : j = s.size := by omega
      obtain ⟨ar, cr, rfl⟩ := own_shape hown
      have HR := Lib.hid (Cvs.own (g := fun i x => ev (polyT (tb s) (tb d) k i) x) hown hf1 (fun i hi => by obtain ⟨D, hD, _⟩ := hcv i hi; exact ⟨D, hD⟩))
      have HBB := Lib.hid (HB1.out.trans (hbw.mono HB1.out.size))
      clear hown hcv hbw hbr
      go_wp2_with fail
      go_ret
      exact ⟨ar, cr, rfl, HR.out, HBB.out⟩
end Go.Proofs.YtdnbkjiijpeiiaaGreat
/- What curves are at a place. -/
namespace Go.Proofs.YtdnbkjiijpeiiaaGreat
open Go.RowKit Go.PlainAid G MGF IRow
set_option linter.unusedVariables false
/-- What curves told by a list's places are at a place. -/
def valsF (g : Nat → B → B) (n : Nat) (x : B) : List B := (List.range n).map fun i => g i x
theorem fl_valsF (g : Nat → B → B) (n : Nat) (x : B) : fl (fun t => bi (g t x)) n = pv (valsF g n x) := by
  unfold fl pv valsF
  rw [List.map_map]
  rfl
set_option maxRecDepth 100000 in
set_option maxHeartbeats 1600000 in
theorem valuesAt_any (f : Nat) (x : B) (a : Option Addr) (n c : Nat) (g : Nat → B → B) (w : World) (hF : Fld w f) (hC : Cvs f w a n c g) (hn : n ≤ 1048576) :
    Calls Tryz.prog 22 #[.int .u8 (bi x), .slice a n c] w fun e w' => e = .returned (.string (tx (valsF g n x))) ∧ FAt w f w' := by
  have hlt := hF.lt
  obtain ⟨i0, hi, hz0, hz1, hz2⟩ := info_parts infoU8
  have HF := Lib.hid (FAt.start hF)
  have HC := Lib.hid hC
  clear hF hC
  go_enter Tryz.func22, Tryz.ntmps22
  go_wp2_with (at_make; refine wpList_make_full _ rfl (.tmp 9) (.tmp 9) 22 rfl w.heap.size 5 i0 (.int .u8 0) 1 Tryz.underlying22 hi hz0 hz1 .i64 .i64 _ _ n rfl rfl rfl rfl (by rw [hz2]; omega) (by unfold maxLen; omega) (Nat.le_refl _) ?_; intro w2 hown2 hg2; rw [madeZero8] at hown2; have HO2 := Lib.hid hown2; have HF2 := Lib.hid (HF.out.below (below_of_none hg2)); clear hown2 hg2)
  go_loopw [13] (fun i wr => ∃ j : Nat, j ≤ n ∧ i = .int .i64 j ∧ wr.ownsRow w.heap.size 5 1 (.slice (some ⟨w.heap.size, 0, none⟩) n n) n ((fl (fun t => if t < j then bi (g t x) else 0) n).map (Value.int .u8)) ∧ FAt w f wr) (fun i _ => n - (intOf i).toNat)
  case atStart => exact ⟨0, Nat.zero_le _, rfl, by rw [fl_congr (g := fun _ => 0) (fun t _ => by rw [if_neg (Nat.not_lt_zero t)])]; exact HO2.out, HF2.out⟩
  case round =>
    obtain ⟨j, hj, rfl, hown, hfw⟩ := hrel
    by_cases hlt2 : j < n
    · obtain ⟨gb, o, rfl, hg, hne, hc⟩ := (HC.out.grown hfw.grown).cells (by omega)
      obtain ⟨v, D, hv, hcv⟩ := hc j hlt2
      obtain ⟨gf, lb, rfl, eg, hcall⟩ := hcv.is
      have HCALL := Lib.hid (hcall wr hfw.fld (fun _ _ => rfl) x)
      have HFW := Lib.hid hfw
      have HO := Lib.hid hown
      clear hown hfw hc hcv hcall hg hne
      go_wp2_with fail
      refine HCALL.out.mono ?_
      rintro e w3 ⟨rfl, hf3⟩
      have hown3 := hf3.own HO.out hlt
      have hoc := own_cell8 hown3 hlt2
      rw [fl_getD _ hlt2, if_neg (Nat.lt_irrefl j)] at hoc
      have hof := hown3.frozenAt j
      have hs := own_stored8 hown3 j (bi (g j x))
      rw [fl_set, fl_congr (g := fun t => if t < j + 1 then bi (g t x) else 0) (fun t _ => by
        by_cases h1 : t = j
        · subst h1; simp
        · rw [if_neg h1]
          by_cases h2 : t < j
          · rw [if_pos h2, if_pos (by omega)]
          · rw [if_neg h2, if_neg (by omega)])] at hs
      have HS := Lib.hid hs
      have HG := Lib.hid ((HFW.out.step hf3).set (g := w.heap.size) (Nat.le_refl _) hlt j (.int .u8 (bi (g j x))))
      generalize bi (g j x) = z at *
      clear hown3 hs hf3
      go_wp2_with fail
      go_roundw
      case rel => exact ⟨j + 1, by omega, by go_num, HS.out, HG.out⟩
      case measure => simp [intOf]; omega
    · obtain rfl : j = n := by omega
      rw [fl_congr (g := fun t => bi (g t x)) (fun t ht => by rw [if_pos ht]), fl_valsF] at hown
      have hcv := conv_owned (P := Tryz.prog) 22 9 5 Tryz.underlying22 Tryz.underlying5 Tryz.underlying9 w.heap.size _ _ _ hown
      have HFW := Lib.hid hfw
      clear hown hfw
      go_wp2_with fail
      go_ret
      exact ⟨rfl, HFW.out⟩
end Go.Proofs.YtdnbkjiijpeiiaaGreat
