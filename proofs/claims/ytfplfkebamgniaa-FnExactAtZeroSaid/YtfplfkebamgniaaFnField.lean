/- What the program's products, powers, inverses and quotients answer. -/
import Derived.Test.YtfplfkebamgniaaFldOps
import Derived.Test.YtfplfkebamgniaaSField3
namespace Go.Proofs.Ytfplfkebamgniaa
open Go.RowKit Go.PlainAid G IRow MGF
set_option linter.unusedVariables false
theorem isByte_any (n : Int) (w : World) :
    Calls Try.prog 64 #[.int .i64 n] w fun e w' => e = .returned (.bool (byteB n)) ∧ w = w' := by
  by_cases h1 : 0 ≤ n
  · by_cases h2 : n ≤ 255
    · go_enter Try.func64, Try.ntmps64
      go_wp2_with fail
      go_ret
      exact ⟨ret_bool (by unfold byteB; simp [h1, h2]), rfl⟩
    · go_enter Try.func64, Try.ntmps64
      go_wp2_with fail
      go_ret
      exact ⟨ret_bool (by unfold byteB; simp [h2]), rfl⟩
  · go_enter Try.func64, Try.ntmps64
    go_wp2_with fail
    go_ret
    exact ⟨ret_bool (by unfold byteB; simp; omega), rfl⟩
theorem b_mod (x : B) : bi x % 256 = bi x := by have := bi_range x; omega
/-- Behind a call that wrote nothing but its own field. -/
theorem fld_end (w : World) {o : Obj} {w' : World} (hg : (w.alloc o).grownBy w' (some w.heap.size)) : Below w.heap.size w w' :=
  ((Below.refl w.heap.size w).alloc (Nat.le_refl _) o).grown hg (by simp) (fun k e => by cases e; exact Nat.le_refl _)
theorem zero_field : Try.zeroCells80.toList = .int .u32 0 :: .int .i32 0 :: .int .u32 0 :: List.replicate 511 (.int .u8 0) := by kernel_rfl
/-- A field's block, as it is made. -/
theorem fld_new (w : World) : Fld (w.alloc (.cells Try.zeroCells80 80)) w.heap.size := by
  refine .inl ⟨by simp, fun i hi => ⟨?_, ?_⟩⟩
  · have hh : (w.alloc (.cells Try.zeroCells80 80)).heap[w.heap.size]? = some (.cells Try.zeroCells80 80 (0, 0)) := by
      show (w.heap.push _)[w.heap.size]? = _
      simp
    have h2 := cell_of_row _ w.heap.size i _ _ _ hh
    rw [h2, ← Array.getElem?_toList, zero_field]
    match i, hi with
    | 0, _ => rfl
    | 1, _ => rfl
    | 2, _ => rfl
    | j + 3, hj =>
      simp only [List.getElem?_cons_succ]
      rw [List.getElem?_replicate, if_pos (by omega)]
      have h0 : FK (hdC 0 0) 0 (j + 3) = .int .u8 0 := by
        unfold FK
        rw [if_neg (by omega)]
        by_cases h4 : j + 3 < 258
        · rw [if_pos h4, if_neg (by omega)]
        · rw [if_neg h4, if_neg (fun h => by omega)]
      rw [h0]
  · simp
set_option maxRecDepth 100000 in
set_option maxHeartbeats 1600000 in
theorem implMul_any (a b : Int) (w : World) : Calls Try.prog 20 #[.int .i64 a, .int .i64 b] w fun e w' => e = .returned (.int .i64 (mulI a b)) ∧ Below w.heap.size w w' := by
  by_cases ha : 0 ≤ a ∧ a ≤ 255
  · by_cases hb : 0 ≤ b ∧ b ≤ 255
    · obtain ⟨x, rfl⟩ := byte_of ha.1 ha.2
      obtain ⟨y, rfl⟩ := byte_of hb.1 hb.2
      have hx := byteB_bi x
      have hy := byteB_bi y
      have hmx := b_mod x
      have hmy := b_mod y
      have hmz := b_mod (mul x y)
      have HM := Lib.hid (mulI_bi x y)
      clear ha hb
      go_enter Try.func20, Try.ntmps20
      go_wp2_with fail
      refine (isByte_any (bi x) _).mono ?_
      rintro e w1 ⟨rfl, rfl⟩
      rw [hx]
      go_wp2_with fail
      refine (isByte_any (bi y) _).mono ?_
      rintro e w1 ⟨rfl, rfl⟩
      rw [hy]
      go_wp2_with fail
      refine (times_any _ x y _ (fld_new w)).mono ?_
      rintro e w1 ⟨rfl, hf, hg⟩
      have HB := Lib.hid (fld_end w hg)
      clear hf hg
      go_wp2_with fail
      go_ret
      exact ⟨ret_int (by rw [HM.out]), HB.out⟩
    · obtain ⟨x, rfl⟩ := byte_of ha.1 ha.2
      have hx := byteB_bi x
      have hy := byteB_no hb
      have HM : Hid (mulI (bi x) b = -1) := Lib.hid (by unfold mulI; rw [if_neg (by omega)])
      clear ha hb
      go_enter Try.func20, Try.ntmps20
      go_wp2_with fail
      refine (isByte_any (bi x) _).mono ?_
      rintro e w1 ⟨rfl, rfl⟩
      rw [hx]
      go_wp2_with fail
      refine (isByte_any b _).mono ?_
      rintro e w1 ⟨rfl, rfl⟩
      rw [hy]
      go_wp2_with fail
      go_ret
      exact ⟨ret_int (by rw [HM.out]), Below.refl _ _⟩
  · have hx := byteB_no ha
    have HM : Hid (mulI a b = -1) := Lib.hid (by unfold mulI; rw [if_neg (by omega)])
    clear ha
    go_enter Try.func20, Try.ntmps20
    go_wp2_with fail
    refine (isByte_any a _).mono ?_
    rintro e w1 ⟨rfl, rfl⟩
    rw [hx]
    go_wp2_with fail
    go_ret
    exact ⟨ret_int (by rw [HM.out]), Below.refl _ _⟩
set_option maxRecDepth 100000 in
set_option maxHeartbeats 1600000 in
theorem implPow_any (a n : Int) (w : World) (h : (Lit.int .i64 n).wf = true) : Calls Try.prog 22 #[.int .i64 a, .int .i64 n] w fun e w' => e = .returned (.int .i64 (powI a n)) ∧ Below w.heap.size w w' := by
  have hn : n < 9223372036854775808 := by have := bounds_i64 h; omega
  clear h
  by_cases ha : 0 ≤ a ∧ a ≤ 255
  · obtain ⟨x, rfl⟩ := byte_of ha.1 ha.2
    have hx := byteB_bi x
    have hmx := b_mod x
    have hr := bi_range x
    by_cases h0 : 0 ≤ n
    · obtain ⟨m, rfl⟩ := Int.eq_ofNat_of_zero_le h0
      have HP : Hid (powI (bi x) (m : Int) = bi (pw x m)) := Lib.hid (by unfold powI; rw [if_pos ⟨hr.1, hr.2, h0⟩, ib_bi, Int.toNat_natCast])
      have hm : m < 9223372036854775808 := by omega
      have hmz := b_mod (pw x m)
      clear hr ha hn
      go_enter Try.func22, Try.ntmps22
      go_wp2_with fail
      refine (isByte_any (bi x) _).mono ?_
      rintro e w1 ⟨rfl, rfl⟩
      rw [hx]
      go_wp2_with fail
      refine (pow_any _ x m _ (fld_new w) hm).mono ?_
      rintro e w1 ⟨rfl, hf, hg⟩
      have HB := Lib.hid (fld_end w hg)
      clear hf hg
      go_wp2_with fail
      go_ret
      exact ⟨ret_int (by rw [HP.out]), HB.out⟩
    · have HP : Hid (powI (bi x) n = -1) := Lib.hid (by unfold powI; rw [if_neg (by omega)])
      clear hr ha
      go_enter Try.func22, Try.ntmps22
      go_wp2_with fail
      refine (isByte_any (bi x) _).mono ?_
      rintro e w1 ⟨rfl, rfl⟩
      rw [hx]
      go_wp2_with fail
      go_ret
      exact ⟨ret_int (by rw [HP.out]), Below.refl _ _⟩
  · have hx := byteB_no ha
    have HP : Hid (powI a n = -1) := Lib.hid (by unfold powI; rw [if_neg (by omega)])
    clear ha
    go_enter Try.func22, Try.ntmps22
    go_wp2_with fail
    refine (isByte_any a _).mono ?_
    rintro e w1 ⟨rfl, rfl⟩
    rw [hx]
    go_wp2_with fail
    go_ret
    exact ⟨ret_int (by rw [HP.out]), Below.refl _ _⟩
set_option maxRecDepth 100000 in
set_option maxHeartbeats 1600000 in
theorem implInv_any (a : Int) (w : World) : Calls Try.prog 24 #[.int .i64 a] w fun e w' => e = .returned (.int .i64 (invI a)) ∧ Below w.heap.size w w' := by
  by_cases hb : 0 ≤ a ∧ a ≤ 255
  · by_cases h0 : a = 0
    · subst h0
      have hx : byteB 0 = true := byteB_bi 0
      have HP : Hid (invI 0 = -1) := Lib.hid (by unfold invI; rw [if_neg (by omega)])
      go_enter Try.func24, Try.ntmps24
      go_wp2_with fail
      refine (isByte_any 0 _).mono ?_
      rintro e w1 ⟨rfl, rfl⟩
      rw [hx]
      go_wp2_with fail
      go_ret
      exact ⟨ret_int (by rw [HP.out]), Below.refl _ _⟩
    · have ha : 1 ≤ a ∧ a ≤ 255 := by omega
      obtain ⟨x, rfl, hx⟩ := byte_ne ha.1 ha.2
      have hbx := byteB_bi x
      have hx0 := b_eq0 hx
      have hmx := b_mod x
      have hmz := b_mod (inv x)
      have HP : Hid (invI (bi x) = bi (inv x)) := Lib.hid (by unfold invI; rw [if_pos ha, ib_bi])
      have HX := Lib.hid hx
      clear ha hb h0 hx
      go_enter Try.func24, Try.ntmps24
      go_wp2_with fail
      refine (isByte_any (bi x) _).mono ?_
      rintro e w1 ⟨rfl, rfl⟩
      rw [hbx]
      go_wp2_with fail
      refine (inverse_any _ x _ (fld_new w) HX.out).mono ?_
      rintro e w1 ⟨rfl, hf, hg⟩
      have HB := Lib.hid (fld_end w hg)
      clear hf hg
      go_wp2_with fail
      go_ret
      exact ⟨ret_int (by rw [HP.out]), HB.out⟩
  · have hx := byteB_no hb
    have HP : Hid (invI a = -1) := Lib.hid (by unfold invI; rw [if_neg (by omega)])
    clear hb
    go_enter Try.func24, Try.ntmps24
    go_wp2_with fail
    refine (isByte_any a _).mono ?_
    rintro e w1 ⟨rfl, rfl⟩
    rw [hx]
    go_wp2_with fail
    go_ret
    exact ⟨ret_int (by rw [HP.out]), Below.refl _ _⟩
set_option maxRecDepth 100000 in
set_option maxHeartbeats 1600000 in
theorem implDiv_any (a b : Int) (w : World) : Calls Try.prog 26 #[.int .i64 a, .int .i64 b] w fun e w' => e = .returned (.int .i64 (divI a b)) ∧ Below w.heap.size w w' := by
  by_cases ha : 0 ≤ a ∧ a ≤ 255
  · obtain ⟨x, rfl⟩ := byte_of ha.1 ha.2
    have hx := byteB_bi x
    have hmx := b_mod x
    by_cases hb : 0 ≤ b ∧ b ≤ 255
    · by_cases h0 : b = 0
      · subst h0
        have hy : byteB 0 = true := byteB_bi 0
        have HP : Hid (divI (bi x) 0 = -1) := Lib.hid (by unfold divI; rw [if_neg (by omega)])
        clear ha hb
        go_enter Try.func26, Try.ntmps26
        go_wp2_with fail
        refine (isByte_any (bi x) _).mono ?_
        rintro e w1 ⟨rfl, rfl⟩
        rw [hx]
        go_wp2_with fail
        refine (isByte_any 0 _).mono ?_
        rintro e w1 ⟨rfl, rfl⟩
        rw [hy]
        go_wp2_with fail
        go_ret
        exact ⟨ret_int (by rw [HP.out]), Below.refl _ _⟩
      · have hb1 : 1 ≤ b ∧ b ≤ 255 := by omega
        obtain ⟨y, rfl, hy0⟩ := byte_ne hb1.1 hb1.2
        have hy := byteB_bi y
        have hyb := b_eq0 hy0
        have hmy := b_mod y
        have hmz := b_mod (mul x (inv y))
        have HP : Hid (divI (bi x) (bi y) = bi (mul x (inv y))) := Lib.hid (by unfold divI; rw [if_pos ⟨ha.1, ha.2, hb1.1, hb1.2⟩, ib_bi, ib_bi])
        have HX := Lib.hid hy0
        clear ha hb h0 hb1 hy0
        go_enter Try.func26, Try.ntmps26
        go_wp2_with fail
        refine (isByte_any (bi x) _).mono ?_
        rintro e w1 ⟨rfl, rfl⟩
        rw [hx]
        go_wp2_with fail
        refine (isByte_any (bi y) _).mono ?_
        rintro e w1 ⟨rfl, rfl⟩
        rw [hy]
        go_wp2_with fail
        refine (inverse_any _ y _ (fld_new w) HX.out).mono ?_
        rintro e w1 ⟨rfl, hf, hg⟩
        have HF := Lib.hid hf
        have HG := Lib.hid hg
        clear hf hg
        go_wp2_with fail
        refine (times_any _ x (inv y) _ HF.out).mono ?_
        rintro e w2 ⟨rfl, hf, hg⟩
        have HB := Lib.hid (fld_end w (grown_trans HG.out hg))
        clear hf hg HF HG
        go_wp2_with fail
        go_ret
        exact ⟨ret_int (by rw [HP.out]), HB.out⟩
    · have hy := byteB_no hb
      have HP : Hid (divI (bi x) b = -1) := Lib.hid (by unfold divI; rw [if_neg (by omega)])
      clear ha hb
      go_enter Try.func26, Try.ntmps26
      go_wp2_with fail
      refine (isByte_any (bi x) _).mono ?_
      rintro e w1 ⟨rfl, rfl⟩
      rw [hx]
      go_wp2_with fail
      refine (isByte_any b _).mono ?_
      rintro e w1 ⟨rfl, rfl⟩
      rw [hy]
      go_wp2_with fail
      go_ret
      exact ⟨ret_int (by rw [HP.out]), Below.refl _ _⟩
  · have hx := byteB_no ha
    have HP : Hid (divI a b = -1) := Lib.hid (by unfold divI; rw [if_neg (by omega)])
    clear ha
    go_enter Try.func26, Try.ntmps26
    go_wp2_with fail
    refine (isByte_any a _).mono ?_
    rintro e w1 ⟨rfl, rfl⟩
    rw [hx]
    go_wp2_with fail
    go_ret
    exact ⟨ret_int (by rw [HP.out]), Below.refl _ _⟩
end Go.Proofs.Ytfplfkebamgniaa
