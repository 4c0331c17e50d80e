/- What the laws' own comparisons of lists and polynomials answer. -/
import Derived.Test.YtnlmbcdaolccbaaSPointsA
import Derived.Test.YtnlmbcdaolccbaaHPointA
namespace Go.Proofs.Ytnlmbcdaolccbaa
open Go.RowKit Go.PlainAid G MGF IRow
set_option linter.unusedVariables false
set_option maxRecDepth 100000 in
theorem lwNums_any (a b : Option Addr) (n m cap cbp : Nat) (zs ys : List Int) (w : World) (h : IR w a n cap zs) (k : IR w b m cbp ys) (hn : n ≤ 1048576) (hm : m ≤ 1048576) :
    Calls Try.prog 62 #[.slice a n cap, .slice b m cbp] w fun e w' => e = .returned (.bool (decide (zs = ys))) ∧ Below w.heap.size w w' := by
  have hl := h.len
  have hl2 := k.len
  by_cases hnm : n = m
  · subst hnm
    go_enter Try.func62, Try.ntmps62
    go_wp2_with fail
    go_loopw [5] (fun i wr => ∃ j : Nat, j ≤ n ∧ i = .int .i64 j ∧ zs.take j = ys.take j ∧ Below w.heap.size w wr) (fun i _ => n - (intOf i).toNat)
    case atStart => exact ⟨0, Nat.zero_le _, rfl, by simp, Below.refl _ _⟩
    case round =>
      obtain ⟨j, hj, rfl, he, hB⟩ := hrel
      have HE := Lib.hid he
      have HB := Lib.hid hB
      by_cases hlt : j < n
      · obtain ⟨g, o, rfl, hg, hc⟩ := h.cells (by omega)
        obtain ⟨g', o', rfl, hg', hc'⟩ := k.cells (by omega)
        have hck := (hB.cell (p := ⟨g, o + j, none⟩) hg).trans (hc j hlt)
        have hck' := (hB.cell (p := ⟨g', o' + j, none⟩) hg').trans (hc' j hlt)
        have hz : zs.take (j + 1) = zs.take j ++ [zs.getD j 0] := take_getD (by omega)
        have hy : ys.take (j + 1) = ys.take j ++ [ys.getD j 0] := take_getD (by omega)
        have HZ := Lib.hid hz
        have HY := Lib.hid hy
        have HN : Hid (zs.getD j 0 ≠ ys.getD j 0 → decide (zs = ys) = false) := Lib.hid (fun hne => decide_eq_false (fun h2 => hne (by rw [h2])))
        generalize zs.getD j 0 = z at *
        generalize ys.getD j 0 = y at *
        clear hc hc' he hz hy h k hB
        by_cases hzy : z = y
        · subst hzy
          have HT : Hid (zs.take (j + 1) = ys.take (j + 1)) := Lib.hid (by rw [HZ.out, HY.out, HE.out])
          go_wp2_with fail
          go_region
          go_wp2_with fail
          go_roundw
          case rel => exact ⟨j + 1, by omega, by go_num, HT.out, by repeat' (first | exact HB.out | refine Below.drew ?_)⟩
          case measure => simp [intOf]; omega
        · have HD := Lib.hid (HN.out hzy)
          have hzb : (z == y) = false := by rw [beq_eq_false_iff_ne]; exact hzy
          go_wp2_with fail
          go_region
          go_wp2_with fail
          go_ret
          exact ⟨ret_bool HD.out.symm, by repeat' (first | exact HB.out | refine Below.drew ?_)⟩
      · obtain rfl : j = n := by omega
        have HD : Hid (decide (zs = ys) = true) := Lib.hid (decide_eq_true (by have := HE.out; rwa [List.take_of_length_le (by omega), List.take_of_length_le (by omega)] at this))
        clear h k he hB
        go_wp2_with fail
        go_ret
        exact ⟨ret_bool HD.out.symm, HB.out⟩
  · have HD : Hid (decide (zs = ys) = false) := Lib.hid (decide_eq_false (fun h2 => hnm (by rw [← hl, ← hl2, h2])))
    clear h k
    go_enter Try.func62, Try.ntmps62
    go_wp2_with fail
    go_ret
    exact ⟨ret_bool HD.out.symm, Below.refl _ _⟩
set_option maxRecDepth 100000 in
theorem lwPoly_any (a b : Option Addr) (n m cap cbp : Nat) (zs : List Int) (c : Int) (w : World) (h : IR w a n cap zs) (k : IR w b m cbp zs) (hn : n ≤ 1048576) (hm : m ≤ 1048576) (hr : c = 0 → rightB zs = true) :
    Calls Try.prog 17 #[polyV (.slice a n cap) c, polyV (.slice b m cbp) c] w fun e w' => e = .returned (.bool true) ∧ Below w.heap.size w w' := by
  unfold polyV
  have hb0 : Below w.heap.size w ((w.alloc (Obj.cells #[Value.slice a n cap, Value.int IntKind.i64 c] 27)).alloc (Obj.cells #[Value.slice b m cbp, Value.int IntKind.i64 c] 27)) :=
    ((Below.refl _ _).alloc (Nat.le_refl _) _).alloc (by simp) _
  have HB0 := Lib.hid hb0
  have H := Lib.hid (h.below hb0)
  have K := Lib.hid (k.below hb0)
  clear h k hb0
  by_cases hc : c = 0
  · have hrt := hr hc
    subst hc
    clear hr
    go_enter Try.func17, Try.ntmps17
    go_wp2_with fail
    refine (lwNums_any a b n m cap cbp zs zs _ H.out K.out hn hm).mono ?_
    rintro e w1 ⟨rfl, hb1⟩
    rw [decide_eq_true rfl]
    obtain ⟨hc, hf⟩ := bcell hb1
    have hz : w.heap.size + 1 < w1.heap.size := by have := hb1.size; simp at this; omega
    have HB1 := Lib.hid (HB0.out.trans (hb1.mono (by simp; omega)))
    have H1 := Lib.hid (H.out.below hb1)
    clear hb1 H K HB0
    go_wp2_with fail
    refine (specPolyRight_any a n cap zs _ H1.out hn).mono ?_
    rintro e w2 ⟨rfl, rfl⟩
    rw [hrt]
    go_wp2_with fail
    go_ret
    exact ⟨rfl, HB1.out⟩
  · have hcb : (c == 0) = false := by rw [beq_eq_false_iff_ne]; exact hc
    have hcn : (c != 0) = true := by rw [bne_iff_ne]; exact hc
    clear hr hc
    go_enter Try.func17, Try.ntmps17
    go_wp2_with fail
    refine (lwNums_any a b n m cap cbp zs zs _ H.out K.out hn hm).mono ?_
    rintro e w1 ⟨rfl, hb1⟩
    rw [decide_eq_true rfl]
    obtain ⟨hc, hf⟩ := bcell hb1
    have hz : w.heap.size + 1 < w1.heap.size := by have := hb1.size; simp at this; omega
    have HB1 := Lib.hid (HB0.out.trans (hb1.mono (by simp; omega)))
    clear hb1 H K HB0
    go_wp2_with fail
    go_ret
    exact ⟨rfl, HB1.out⟩
theorem lwPoly_agg (a b : Option Addr) (n m cap cbp : Nat) (zs : List Int) (c : Int) (w : World) (h : IR w a n cap zs) (k : IR w b m cbp zs) (hn : n ≤ 1048576) (hm : m ≤ 1048576) (hr : c = 0 → rightB zs = true) :
    Calls Try.prog 17 #[.agg #[.slice a n cap, .int .i64 c], .agg #[.slice b m cbp, .int .i64 c]] w fun e w' => e = .returned (.bool true) ∧ Below w.heap.size w w' :=
  lwPoly_any a b n m cap cbp zs c w h k hn hm hr
end Go.Proofs.Ytnlmbcdaolccbaa
/- A struct of two cells that stays where it lies. Nothing of the program stands here. -/
namespace Go.Proofs.Ytnlmbcdaolccbaa.IRow
open Go.RowKit
theorem IR.small {w : World} {a : Option Addr} {n cap : Nat} {zs : List Int} (h : IR w a n cap zs) (hl : zs.length ≤ 60) : n ≤ 1048576 := by have := h.len; omega
structure BX (w : World) (h : Nat) (x y : Value) : Prop where
  lt : h < w.heap.size
  c0 : w.cell? ⟨h, 0, none⟩ = some x
  c1 : w.cell? ⟨h, 1, none⟩ = some y
theorem BX.below {w w' : World} {h : Nat} {x y : Value} (k : BX w h x y) (hb : Below w.heap.size w w') : BX w' h x y :=
  ⟨Nat.lt_of_lt_of_le k.lt hb.size, (hb.cell (p := ⟨h, 0, none⟩) k.lt).trans k.c0, (hb.cell (p := ⟨h, 1, none⟩) k.lt).trans k.c1⟩
theorem BX.made (w : World) (x y : Value) (e : TypeId) : BX (w.alloc (.cells #[x, y] e)) w.heap.size x y := by
  have h := box_cells (box_made w x y e)
  exact ⟨by simp, h.1, h.2⟩
theorem BX.made' (w : World) (x y : Value) (e : TypeId) {h : Nat} (hh : w.heap.size = h) : BX (w.alloc (.cells #[x, y] e)) h x y := hh ▸ BX.made w x y e
end Go.Proofs.Ytnlmbcdaolccbaa.IRow
namespace Go.Proofs.Ytnlmbcdaolccbaa
open Go.RowKit MGF IRow
theorem told_right {p : List B} (h : Right p) (hc : (told p).2 = 0) : rightB (told p).1 = true := by
  unfold told at *
  by_cases hl : 60 < p.length
  · rw [if_pos hl] at hc; exact absurd hc (by decide)
  · rw [if_neg hl]; exact (rightB_pv p).2 ⟨by omega, h⟩
theorem polyAddR_right {zs ys rs : List Int} {c : Int} (e : polyAddR zs ys = (rs, c)) (h : c = 0) : rightB rs = true := by
  have h1 : (polyAddR zs ys).2 = 0 := by rw [e]; exact h
  have h2 : rightB (polyAddR zs ys).1 = true := by
    unfold polyAddR at *
    split
    · rename_i hs; rw [if_pos hs] at h1; exact absurd h1 (by decide)
    · rename_i hs
      rw [if_neg hs] at h1
      split
      · rename_i hr; rw [if_pos hr] at h1; exact told_right (trim_right _) h1
      · rename_i hr; rw [if_neg hr] at h1; exact absurd h1 (by decide)
  rwa [e] at h2
theorem polyMulR_right {zs ys rs : List Int} {c : Int} (e : polyMulR zs ys = (rs, c)) (h : c = 0) : rightB rs = true := by
  have h1 : (polyMulR zs ys).2 = 0 := by rw [e]; exact h
  have h2 : rightB (polyMulR zs ys).1 = true := by
    unfold polyMulR at *
    split
    · rename_i hs; rw [if_pos hs] at h1; exact absurd h1 (by decide)
    · rename_i hs
      rw [if_neg hs] at h1
      split
      · rename_i hr; rw [if_pos hr] at h1; exact told_right (trim_right _) h1
      · rename_i hr; rw [if_neg hr] at h1; exact absurd h1 (by decide)
  rwa [e] at h2
theorem vanS_right (xs : List B) : ∀ i, Right (vanS xs i)
  | 0 => fun _ => by simp [vanS]
  | _ + 1 => trim_right _
theorem throughR_right {ps : List (Int × Int)} {rs : List Int} {c : Int} (e : throughR ps = (rs, c)) (h : c = 0) : rightB rs = true := by
  have h1 : (throughR ps).2 = 0 := by rw [e]; exact h
  have h2 : rightB (throughR ps).1 = true := by
    unfold throughR at *
    split
    · rename_i hs; rw [if_pos hs] at h1; exact absurd h1 (by decide)
    · rename_i hs
      rw [if_neg hs] at h1
      split
      · rename_i hr
        obtain ⟨qs, rfl, q1, q2, q3⟩ := (pointsB_iff ps).1 hr
        rw [ibp_pp, pp_length]
        exact (rightB_pv _).2 ⟨by have := thrS_length qs qs.length (Nat.le_refl _); omega, thrS_right qs _⟩
      · rename_i hr; rw [if_neg hr] at h1; exact absurd h1 (by decide)
  rwa [e] at h2
theorem vanishR_right {zs rs : List Int} {c : Int} (e : vanishR zs = (rs, c)) (h : c = 0) : rightB rs = true := by
  have h1 : (vanishR zs).2 = 0 := by rw [e]; exact h
  have h2 : rightB (vanishR zs).1 = true := by
    unfold vanishR at *
    split
    · rename_i hs; rw [if_pos hs] at h1; exact absurd h1 (by decide)
    · rename_i hs
      rw [if_neg hs] at h1
      split
      · rename_i hr
        obtain ⟨xs, rfl, q1, _⟩ := (xsB_iff zs 20).1 hr
        rw [map_ib_pv, pv_length]
        exact (rightB_pv _).2 ⟨by have := vanS_length xs xs.length; omega, vanS_right xs _⟩
      · rename_i hr; rw [if_neg hr] at h1; exact absurd h1 (by decide)
  rwa [e] at h2
end Go.Proofs.Ytnlmbcdaolccbaa
/- What chapter 4's law asks beside the same answers: sums and products at a place, zeroes, points. Nothing of the program stands here. -/
namespace Go.Proofs.Ytnlmbcdaolccbaa
open MGF IRow
theorem add_parts {zs ys rs : List Int} {c : Int} (e : polyAddR zs ys = (rs, c)) (h : c = 0) : ∃ p q : List B, zs = pv p ∧ ys = pv q ∧ rightB (pv p) = true ∧ rightB (pv q) = true ∧ rs = pv (trim (addP p q)) := by
  subst h
  by_cases hs : 400 < zs.length ∨ 400 < ys.length
  · rw [polyAddR_size hs] at e; exact absurd (congrArg Prod.snd e) (by simp)
  · by_cases hr : rightB zs = true ∧ rightB ys = true
    · obtain ⟨p, rfl, _, _⟩ := (rightB_iff zs).1 hr.1
      obtain ⟨q, rfl, _, _⟩ := (rightB_iff ys).1 hr.2
      rw [polyAddR_pv hs hr.1 hr.2] at e
      refine ⟨p, q, rfl, rfl, hr.1, hr.2, ?_⟩
      unfold told at e
      split at e
      · exact absurd (congrArg Prod.snd e) (by simp)
      · exact (congrArg Prod.fst e).symm
    · rw [polyAddR_form hs hr] at e; exact absurd (congrArg Prod.snd e) (by simp)
theorem mul_parts {zs ys rs : List Int} {c : Int} (e : polyMulR zs ys = (rs, c)) (h : c = 0) : ∃ p q : List B, zs = pv p ∧ ys = pv q ∧ rightB (pv p) = true ∧ rightB (pv q) = true ∧ rs = pv (trim (mulP p q)) := by
  subst h
  by_cases hs : 400 < zs.length ∨ 400 < ys.length
  · rw [polyMulR_size hs] at e; exact absurd (congrArg Prod.snd e) (by simp)
  · by_cases hr : rightB zs = true ∧ rightB ys = true
    · obtain ⟨p, rfl, _, _⟩ := (rightB_iff zs).1 hr.1
      obtain ⟨q, rfl, _, _⟩ := (rightB_iff ys).1 hr.2
      rw [polyMulR_pv hs hr.1 hr.2] at e
      refine ⟨p, q, rfl, rfl, hr.1, hr.2, ?_⟩
      unfold told at e
      split at e
      · exact absurd (congrArg Prod.snd e) (by simp)
      · exact (congrArg Prod.fst e).symm
    · rw [polyMulR_form hs hr] at e; exact absurd (congrArg Prod.snd e) (by simp)
theorem add_at {zs ys rs : List Int} {c : Int} (e : polyAddR zs ys = (rs, c)) (h : c = 0) (y : B) : ∃ a b : B, evalI zs (bi y) = bi a ∧ evalI ys (bi y) = bi b ∧ evalI rs (bi y) = bi (a ^^^ b) := by
  have hr := polyAddR_right e h
  obtain ⟨p, q, rfl, rfl, h1, h2, rfl⟩ := add_parts e h
  exact ⟨ev p y, ev q y, evalI_pv h1 y, evalI_pv h2 y, by rw [evalI_pv hr, ev_trim, ev_addP]⟩
theorem mul_at {zs ys rs : List Int} {c : Int} (e : polyMulR zs ys = (rs, c)) (h : c = 0) (y : B) : ∃ a b : B, evalI zs (bi y) = bi a ∧ evalI ys (bi y) = bi b ∧ evalI rs (bi y) = bi (mul a b) := by
  have hr := polyMulR_right e h
  obtain ⟨p, q, rfl, rfl, h1, h2, rfl⟩ := mul_parts e h
  exact ⟨ev p y, ev q y, evalI_pv h1 y, evalI_pv h2 y, by rw [evalI_pv hr, ev_trim, ev_mulP]⟩
theorem bi_xor64 (x y : B) : bits .xor .i64 (bi x) (bi y) = bi (x ^^^ y) := by
  unfold bi
  rw [BitVec.toNat_xor]
  have h2 : x.toNat ^^^ y.toNat < 2 ^ 8 := Nat.xor_lt_two_pow x.isLt y.isLt
  have ha := x.isLt
  have hb := y.isLt
  have ha' : x.toNat % 2 ^ IntKind.i64.bits = x.toNat := Nat.mod_eq_of_lt (Nat.lt_of_lt_of_le ha (by decide))
  have hb' : y.toNat % 2 ^ IntKind.i64.bits = y.toNat := Nat.mod_eq_of_lt (Nat.lt_of_lt_of_le hb (by decide))
  simp only [bits, BitVec.ofInt_natCast, BitVec.toNat_xor, BitVec.toNat_ofNat, ha', hb']
  rw [IntWalk.i64_in _ (by omega)]
/-- As many factors as places. -/
theorem vanS_all {xs : List B} (hn : xs.Nodup) (h0 : ∀ x ∈ xs, x ≠ 0) : (vanS xs xs.length).length = xs.length + 1 := by
  have h1 := vanS_length xs xs.length
  by_cases h : (vanS xs xs.length).length ≤ xs.length
  · have hz := zero_of_roots xs _ h hn (fun x hx => by
      obtain ⟨j, hj, rfl⟩ := List.getElem_of_mem hx
      have e : cf xs j = xs[j] := by unfold cf; rw [getD_mem _ hj]
      rw [← e]
      exact vanS_at (by rw [e]; exact h0 _ (List.getElem_mem _)) _ hj)
    have h2 := vanS_zero xs xs.length
    rw [ev_zero_of hz] at h2
    exact absurd h2 (by decide)
  · omega
theorem van_tells {zs rs : List Int} {c : Int} (e : vanishR zs = (rs, c)) (h : c = 0) : (∀ i, i < zs.length → evalI rs (zs.getD i 0) = 0) ∧ evalI rs 0 = 1 ∧ rs.length = zs.length + 1 := by
  have hr := vanishR_right e h
  subst h
  by_cases hs : 400 < zs.length
  · rw [vanishR_size hs] at e; exact absurd (congrArg Prod.snd e) (by simp)
  · cases hx : xsB zs 20
    · rw [vanishR_form hs hx] at e; exact absurd (congrArg Prod.snd e) (by simp)
    · obtain ⟨xs, rfl, _, h1, h2⟩ := (xsB_iff zs 20).1 hx
      rw [vanishR_pv hs hx] at e
      have er : rs = pv (vanS xs xs.length) := (congrArg Prod.fst e).symm
      subst er
      refine ⟨fun i hi => ?_, ?_, by rw [pv_length, pv_length, vanS_all h2 h1]⟩
      · rw [pv_length] at hi
        rw [pv_getD, evalI_pv hr, vanS_at (h1 _ (by unfold cf; rw [getD_mem _ hi]; exact List.getElem_mem _)) _ hi]
        rfl
      · have := evalI_pv hr 0
        rw [vanS_zero] at this
        exact this
/-- Another list of points on the same polynomial. -/
def mirror (rs : List Int) (n : Nat) : List (Int × Int) := (List.range n).map fun i : Nat => (200 - (i : Int), evalI rs (200 - (i : Int)))
theorem mirror_succ (rs : List Int) (n : Nat) : mirror rs (n + 1) = mirror rs n ++ [(200 - (n : Int), evalI rs (200 - (n : Int)))] := by
  unfold mirror
  rw [List.range_succ, List.map_append]
  rfl
theorem mirror_length (rs : List Int) (n : Nat) : (mirror rs n).length = n := by simp [mirror]
theorem bi_200 {i : Nat} (h : i ≤ 100) : bi (BitVec.ofNat 8 (200 - i)) = 200 - (i : Int) := by
  unfold bi
  simp [BitVec.toNat_ofNat]
  omega
theorem thr_tells {ps : List (Int × Int)} {rs : List Int} {c : Int} (e : throughR ps = (rs, c)) (h : c = 0) : (∀ i, i < ps.length → evalI rs (ps.getD i (0, 0)).1 = (ps.getD i (0, 0)).2) ∧ rs.length ≤ ps.length ∧ atZeroI ps = evalI rs 0 ∧ ps.length ≤ 20 ∧ throughR (mirror rs ps.length) = (rs, c) := by
  have hr := throughR_right e h
  subst h
  by_cases hs : 400 < ps.length
  · rw [throughR_size hs] at e; exact absurd (congrArg Prod.snd e) (by simp)
  · cases hx : pointsB ps
    · rw [throughR_form hs hx] at e; exact absurd (congrArg Prod.snd e) (by simp)
    · obtain ⟨qs, rfl, h1, h2, h3⟩ := (pointsB_iff ps).1 hx
      rw [throughR_pp hs hx] at e
      have er : rs = pv (thrS qs qs.length) := (congrArg Prod.fst e).symm
      subst er
      refine ⟨fun i hi => ?_, ?_, ?_, by rw [pp_length]; exact h2, ?_⟩
      · rw [pp_length] at hi
        rw [pp_getD]
        have h4 := thrS_at h3 hi qs.length (Nat.le_refl _)
        rw [if_pos hi] at h4
        rw [evalI_pv hr]
        exact congrArg bi h4
      · rw [pv_length, pp_length]; exact thrS_length qs _ (Nat.le_refl _)
      · unfold atZeroI
        rw [if_pos hx, ibp_pp, pp_length]
        exact (evalI_pv hr 0).symm
      · rw [pp_length]
        obtain ⟨ms, hms⟩ : ∃ ms : List (B × B), ms = (List.range qs.length).map fun i => (BitVec.ofNat 8 (200 - i), ev (thrS qs qs.length) (BitVec.ofNat 8 (200 - i))) := ⟨_, rfl⟩
        have hml : ms.length = qs.length := by rw [hms]; simp
        have em : mirror (pv (thrS qs qs.length)) qs.length = pp ms := by
          rw [hms]
          unfold mirror pp
          rw [List.map_map]
          refine List.map_congr_left (fun i hi => ?_)
          have hi2 := List.mem_range.1 hi
          have hb := bi_200 (i := i) (by omega)
          show (200 - (i : Int), evalI _ (200 - (i : Int))) = (bi _, bi _)
          rw [← hb, evalI_pv hr]
        have hx2 : xsOf ms = (List.range qs.length).map fun i => BitVec.ofNat 8 (200 - i) := by
          rw [hms]
          unfold xsOf
          rw [List.map_map]
          rfl
        have hnd : (xsOf ms).Nodup := by
          rw [hx2]
          refine List.pairwise_map.2 (List.Pairwise.imp_of_mem ?_ (List.nodup_range (n := qs.length)))
          intro a b ha hb hne hab
          have ha2 := List.mem_range.1 ha
          have hb2 := List.mem_range.1 hb
          have h5 := congrArg bi hab
          rw [bi_200 (by omega), bi_200 (by omega)] at h5
          exact hne (by omega)
        have hu : thrS qs qs.length = thrS ms ms.length := thr_unique hnd (thrS_right qs _) (by rw [hml]; exact thrS_length qs _ (Nat.le_refl _)) (fun j hj => by
          rw [hml] at hj
          unfold px py
          rw [hms]
          simp [List.getD, hj])
        have hpb : pointsB (pp ms) = true := (pointsB_iff _).2 ⟨ms, rfl, by omega, by omega, hnd⟩
        rw [em, throughR_pp (by rw [pp_length]; omega) hpb, ← hu]
end Go.Proofs.Ytnlmbcdaolccbaa
