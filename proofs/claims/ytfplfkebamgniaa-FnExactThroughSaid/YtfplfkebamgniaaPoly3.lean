/- The program's polynomials: a list of bytes as one, and one as a list of its own. -/
import Derived.Test.YtfplfkebamgniaaPoly2
import Derived.Test.YtfplfkebamgniaaFnField
namespace Go.Proofs.Ytfplfkebamgniaa
open Go.RowKit Go.PlainAid G IRow MGF
set_option linter.unusedVariables false
set_option maxRecDepth 100000 in
set_option maxHeartbeats 1600000 in
theorem bytePolyOf_any (f : Nat) (a : Option Addr) (n cap : Nat) (p : List B) (w : World) (h : IR w a n cap (pv p)) (hf : f < w.heap.size) (hn : n ≤ 1048576) :
    Calls Try.prog 76 #[.pointer (some ⟨f, 0, none⟩), .slice a n cap] w fun e w' => ∃ a' k c', e = .returned (pvl f (.slice a' k c')) ∧ BR f w' a' k c' (trim p) ∧ Below w.heap.size w w' := by
  have hl : p.length = n := by have := h.len; rwa [pv_length] at this
  obtain ⟨i0, hi, hz0, hz1, hz2⟩ := info_parts infoU8
  have hb0 : Below w.heap.size w (w.alloc (Obj.cells #[Value.pointer none, Value.slice none 0 0] 90)) := (Below.refl _ _).alloc (Nat.le_refl _) _
  have hs0 : (w.alloc (Obj.cells #[Value.pointer none, Value.slice none 0 0] 90)).heap.size = w.heap.size + 1 := by simp
  have hx0 := World.cell?_alloc_new w #[Value.pointer none, Value.slice none 0 0] 90
  have hfz0 : (w.alloc (Obj.cells #[Value.pointer none, Value.slice none 0 0] 90)).frozen? ⟨w.heap.size, 0, none⟩ = false := by simp
  have hfz1 : (w.alloc (Obj.cells #[Value.pointer none, Value.slice none 0 0] 90)).frozen? ⟨w.heap.size, 1, none⟩ = false := by simp
  have hc0 := hx0 0
  have hc1 := hx0 1
  have HB0 := Lib.hid hb0
  have H0 := Lib.hid (h.below hb0)
  clear hx0 h hb0
  go_enter Try.func76, Try.ntmps76
  go_wp2_with (at_make; refine wpList_make_full _ rfl (.tmp 9) (.tmp 9) 22 rfl (w.heap.size + 1) 5 i0 (.int .u8 0) 1 Try.underlying22 hi hz0 hz1 .i64 .i64 _ _ n rfl rfl rfl rfl (by rw [hz2]; omega) (by unfold maxLen; omega) (by rw [hs0]; exact Nat.le_refl _) ?_; intro w4 hown4 hg4; rw [madeZero8, hs0] at hown4)
  generalize w.alloc (Obj.cells #[Value.pointer none, Value.slice none 0 0] 90) = wa at *
  obtain ⟨rb, hrb⟩ : ∃ r, r = w.heap.size + 1 := ⟨_, rfl⟩
  have HRB : Hid (w.heap.size < rb) := Lib.hid (by omega)
  simp only [← hrb] at *
  have HG4 := Lib.hid hg4
  have HS0 := Lib.hid hs0
  clear hg4 hs0 hrb
  go_loopw [13] (fun i wr => ∃ k : Nat, k ≤ n ∧ i = .int .i64 k ∧ wr.ownsRow rb 5 1 (.slice (some ⟨rb, 0, none⟩) n n) n ((fl (fun t => if t < k then bi (cf p t) else 0) n).map (Value.int .u8)) ∧ wa.grownBy wr none) (fun i _ => n - (intOf i).toNat)
  case atStart => exact ⟨0, Nat.zero_le _, rfl, by simpa using hown4, HG4.out⟩
  case round =>
    obtain ⟨k, hk, rfl, hown, hG⟩ := hrel
    by_cases hlt : k < n
    · obtain ⟨g, o, rfl, hg, hc⟩ := H0.out.cells (by omega)
      have hck := hG.cell (hc k hlt) (by simp)
      rw [pv_getD] at hck
      have hoc := own_cell8 hown hlt
      have hof := hown.frozenAt k
      have hmod := b_mod (cf p k)
      have hs := own_stored8 hown k (bi (cf p k))
      rw [fl_set, fl_congr (g := fun t => if t < k + 1 then bi (cf p t) else 0) (fun i _ => by
        by_cases h1 : i = k
        · subst h1; simp
        · rw [if_neg h1]
          by_cases h2 : i < k
          · rw [if_pos h2, if_pos (by omega)]
          · rw [if_neg h2, if_neg (by omega)])] at hs
      have HS := Lib.hid hs
      have HG := Lib.hid (fg_set hG (g := rb) (by have := HS0.out; omega) k (.int .u8 (bi (cf p k))))
      generalize bi (cf p k) = z at *
      clear hown hG hs hc hown4
      go_wp2_with fail
      go_roundw
      case rel => exact ⟨k + 1, by omega, by go_num, HS.out, HG.out⟩
      case measure => simp [intOf]; omega
    · obtain rfl : k = n := by omega
      have e : fl (fun t => if t < k then bi (cf p t) else 0) k = pv p := by
        rw [pv_fl, hl]
        exact fl_congr (fun t ht => by rw [if_pos ht])
      rw [e] at hown
      have HR := Lib.hid (BR.own hown (f := f) (by have := HRB.out; omega))
      have HG := Lib.hid hG
      have HC0 := Lib.hid (hG.cell hc0 (by simp))
      have HC1 := Lib.hid (hG.cell hc1 (by simp))
      have HZ0 := Lib.hid ((World.frozen?_of_block (w := wa) (a := ⟨w.heap.size, 0, none⟩) (hG.block w.heap.size (by have := HS0.out; have := HRB.out; omega) (by simp))).trans hfz0)
      have HZ1 := Lib.hid ((World.frozen?_of_block (w := wa) (a := ⟨w.heap.size, 1, none⟩) (hG.block w.heap.size (by have := HS0.out; have := HRB.out; omega) (by simp))).trans hfz1)
      have hsz : w.heap.size < wr.heap.size := by have := hG.size; have := HS0.out; have := HRB.out; omega
      clear hown hown4 hc0 hc1 hfz0 hfz1 hG e
      go_wp2_with fail
      refine (trimmed_any f (some ⟨rb, 0, none⟩) k k p _ HR.out (by omega)).mono ?_
      rintro e w6 ⟨k6, rfl, h6, hb6⟩
      unfold pvl
      have hc0 := (hb6.cell (p := ⟨w.heap.size, 0, none⟩) hsz).trans HC0.out
      have hc1 := (hb6.cell (p := ⟨w.heap.size, 1, none⟩) hsz).trans HC1.out
      have hz0' := (hb6.frozen (p := ⟨w.heap.size, 0, none⟩) hsz).trans HZ0.out
      have hz1' := (hb6.frozen (p := ⟨w.heap.size, 1, none⟩) hsz).trans HZ1.out
      have H6 := Lib.hid h6
      have HB6 := Lib.hid hb6
      clear h6 hb6
      go_wp2_with fail
      obtain ⟨hr0, hr1⟩ := box_put (w := w6) (b := w.heap.size) (x := .pointer (some ⟨f, 0, none⟩)) (y := .slice (some ⟨rb, 0, none⟩) k6 k) hc0 hc1
      have hbe : Below w.heap.size w ((w6.setCell ⟨w.heap.size, 0, none⟩ (.pointer (some ⟨f, 0, none⟩))).setCell ⟨w.heap.size, 1, none⟩ (.slice (some ⟨rb, 0, none⟩) k6 k)) :=
        (((HB0.out.grown HG.out (by have := HS0.out; have := HRB.out; omega) (fun k e => by cases e)).trans (HB6.out.mono (Nat.le_of_lt hsz))).setCell (p := ⟨w.heap.size, 0, none⟩) (Nat.le_refl _) _).setCell (p := ⟨w.heap.size, 1, none⟩) (Nat.le_refl _) _
      have hbr := (H6.out.set (b := w.heap.size) (fun g o e => by cases e; have := HRB.out; omega) 0 (.pointer (some ⟨f, 0, none⟩))).set (b := w.heap.size) (fun g o e => by cases e; have := HRB.out; omega) 1 (.slice (some ⟨rb, 0, none⟩) k6 k)
      exact bodyPost_ret (v := .agg #[.pointer (some ⟨f, 0, none⟩), .slice (some ⟨rb, 0, none⟩) k6 k]) (by simp [results, Try.results76, go_sem, hr0, hr1]) rfl ⟨_, _, _, rfl, hbr, hbe⟩
set_option maxRecDepth 100000 in
set_option maxHeartbeats 1600000 in
theorem polyOut_any (f : Nat) (a : Option Addr) (n cap : Nat) (p : List B) (w : World) (h : BR f w a n cap p) (hn : n ≤ 1048576) :
    Calls Try.prog 75 #[pvl f (.slice a n cap)] w (NewOut (told p) w) := by
  have hl : p.length = n := h.len
  obtain ⟨i0, hi, hz0, hz1, hz2⟩ := info_parts infoI64
  have hb0 : Below w.heap.size w ((w.alloc (Obj.cells #[Value.pointer (some ⟨f, 0, none⟩), Value.slice a n cap] 90)).alloc (Obj.cells #[Value.slice none 0 0, Value.int IntKind.i64 0] 34)) := ((Below.refl _ _).alloc (Nat.le_refl _) _).alloc (by simp) _
  have HB0 := Lib.hid hb0
  unfold pvl
  by_cases h60 : 60 < n
  · have HT : Hid (told p = ([], 9)) := Lib.hid (by unfold told; rw [if_pos (by omega)])
    clear h hl hb0
    go_enter Try.func75, Try.ntmps75
    go_wp2_with fail
    exact bodyPost_ret (v := .agg #[.slice none 0 0, .int .i64 9]) (by simp [results, Try.results75, go_sem]) rfl (ret_out HT.out ⟨rfl, .inl ⟨rfl, rfl⟩⟩ (((Below.refl _ _).alloc (Nat.le_refl _) _).alloc (by simp) _))
  · have HT : Hid (told p = (pv p, 0)) := Lib.hid (by unfold told; rw [if_neg (by omega)])
    have hs0 : ((w.alloc (Obj.cells #[Value.pointer (some ⟨f, 0, none⟩), Value.slice a n cap] 90)).alloc (Obj.cells #[Value.slice none 0 0, Value.int IntKind.i64 0] 34)).heap.size = w.heap.size + 2 := by simp
    have hp1 : ((w.alloc (Obj.cells #[Value.pointer (some ⟨f, 0, none⟩), Value.slice a n cap] 90)).alloc (Obj.cells #[Value.slice none 0 0, Value.int IntKind.i64 0] 34)).cell? ⟨w.heap.size, 1, none⟩ = some (.slice a n cap) := by simp
    have hx0 : ((w.alloc (Obj.cells #[Value.pointer (some ⟨f, 0, none⟩), Value.slice a n cap] 90)).alloc (Obj.cells #[Value.slice none 0 0, Value.int IntKind.i64 0] 34)).cell? ⟨w.heap.size + 1, 0, none⟩ = some (.slice none 0 0) := by simp
    have hx1 : ((w.alloc (Obj.cells #[Value.pointer (some ⟨f, 0, none⟩), Value.slice a n cap] 90)).alloc (Obj.cells #[Value.slice none 0 0, Value.int IntKind.i64 0] 34)).cell? ⟨w.heap.size + 1, 1, none⟩ = some (.int .i64 0) := by simp
    have hf0 : ((w.alloc (Obj.cells #[Value.pointer (some ⟨f, 0, none⟩), Value.slice a n cap] 90)).alloc (Obj.cells #[Value.slice none 0 0, Value.int IntKind.i64 0] 34)).frozen? ⟨w.heap.size + 1, 0, none⟩ = false := by simp
    have hf1 : ((w.alloc (Obj.cells #[Value.pointer (some ⟨f, 0, none⟩), Value.slice a n cap] 90)).alloc (Obj.cells #[Value.slice none 0 0, Value.int IntKind.i64 0] 34)).frozen? ⟨w.heap.size + 1, 1, none⟩ = false := by simp
    have H0 := Lib.hid (h.below hb0)
    clear h hb0
    go_enter Try.func75, Try.ntmps75
    go_wp2_with (at_make; refine wpList_make_full _ rfl (.tmp 13) (.tmp 13) 30 rfl (w.heap.size + 2) 2 i0 (.int .i64 0) 1 Try.underlying30 hi hz0 hz1 .i64 .i64 _ _ n rfl rfl rfl rfl (by rw [hz2]; omega) (by unfold maxLen; omega) (by simp) ?_; intro w4 hown4 hg4; rw [madeZero, fl_zero, hs0] at hown4; have hp4 := hg4.cell hp1 (by simp))
    generalize (w.alloc (Obj.cells #[Value.pointer (some ⟨f, 0, none⟩), Value.slice a n cap] 90)).alloc (Obj.cells #[Value.slice none 0 0, Value.int IntKind.i64 0] 34) = wa at *
    obtain ⟨rb, hrb⟩ : ∃ r, r = w.heap.size + 2 := ⟨_, rfl⟩
    have HRB : Hid (w.heap.size + 1 < rb) := Lib.hid (by omega)
    simp only [← hrb] at *
    have HG4 := Lib.hid hg4
    have HS0 := Lib.hid hs0
    clear hg4 hs0 hrb hp1 hp4
    go_loopw [18] (fun i wr => ∃ k : Nat, k ≤ n ∧ i = .int .i64 k ∧ wr.ownsRow rb 2 1 (.slice (some ⟨rb, 0, none⟩) n n) n ((fl (fun t => if t < k then bi (cf p t) else 0) n).map (Value.int .i64)) ∧ wa.grownBy wr none) (fun i _ => n - (intOf i).toNat)
    case atStart => exact ⟨0, Nat.zero_le _, rfl, by simpa using hown4, HG4.out⟩
    case round =>
      obtain ⟨k, hk, rfl, hown, hG⟩ := hrel
      by_cases hlt : k < n
      · obtain ⟨g, o, rfl, hg, hne, hc⟩ := H0.out.cells (by omega)
        have hck := hG.cell (hc k hlt) (by simp)
        have hoc := own_cell hown hlt
        have hof := hown.frozenAt k
        have hwz : wrap64 (bi (cf p k)) = bi (cf p k) := by have := bi_range (cf p k); simp [wrap64]; omega
        have hs := own_stored hown k (bi (cf p k))
        rw [fl_set, fl_congr (g := fun t => if t < k + 1 then bi (cf p t) else 0) (fun i _ => by
          by_cases h1 : i = k
          · subst h1; simp
          · rw [if_neg h1]
            by_cases h2 : i < k
            · rw [if_pos h2, if_pos (by omega)]
            · rw [if_neg h2, if_neg (by omega)])] at hs
        have HS := Lib.hid hs
        have HG := Lib.hid (fg_set hG (g := rb) (by have := HS0.out; omega) k (.int .i64 (bi (cf p k))))
        generalize bi (cf p k) = z at *
        clear hown hG hs hc hown4
        go_wp2_with fail
        go_roundw
        case rel => exact ⟨k + 1, by omega, by go_num, HS.out, HG.out⟩
        case measure => simp [intOf]; omega
      · obtain rfl : k = n := by omega
        have e : fl (fun t => if t < k then bi (cf p t) else 0) k = pv p := by
          rw [pv_fl, hl]
          exact fl_congr (fun t ht => by rw [if_pos ht])
        rw [e] at hown
        have hr0 := hG.cell hx0 (by simp)
        have hr1 := hG.cell hx1 (by simp)
        have hblk := hG.block (w.heap.size + 1) (by have := HS0.out; have := HRB.out; omega) (by simp)
        have hz0' := (World.frozen?_of_block (w := wa) (a := ⟨w.heap.size + 1, 0, none⟩) hblk).trans hf0
        have hz1' := (World.frozen?_of_block (w := wa) (a := ⟨w.heap.size + 1, 1, none⟩) hblk).trans hf1
        have HOE := Lib.hid (own_other (own_other hown (b := w.heap.size + 1) (fun g e => by have := HRB.out; simp [Value.ownBlock] at e; omega) ⟨w.heap.size + 1, 0, none⟩ (.slice (some ⟨rb, 0, none⟩) k k) rfl) (b := w.heap.size + 1) (fun g e => by have := HRB.out; simp [Value.ownBlock] at e; omega) ⟨w.heap.size + 1, 1, none⟩ (.int .i64 0) rfl)
        clear hblk hf0 hf1
        have HB := Lib.hid (HB0.out.grown hG (by have := HS0.out; have := HRB.out; omega) (fun k e => by cases e))
        have HP0 := Lib.hid (box_put (x := .slice (some ⟨rb, 0, none⟩) k k) (y := .int .i64 0) hr0 hr1)
        clear hown hown4 hG e hx0 hx1
        go_wp2_with fail
        obtain ⟨hr0', hr1'⟩ := HP0.out
        exact bodyPost_ret (v := .agg #[.slice (some ⟨rb, 0, none⟩) k k, .int .i64 0]) (by simp [results, Try.results75, go_sem, hr0', hr1']) rfl (ret_out HT.out (own_mono HOE.out (by have := HRB.out; omega)) ((HB.out.setCell (p := ⟨w.heap.size + 1, 0, none⟩) (Nat.le_succ _) _).setCell (p := ⟨w.heap.size + 1, 1, none⟩) (Nat.le_succ _) _))
end Go.Proofs.Ytfplfkebamgniaa
