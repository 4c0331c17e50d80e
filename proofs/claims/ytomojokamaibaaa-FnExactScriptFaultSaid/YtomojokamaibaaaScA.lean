/- Scripts, the program's: texts cut, words, numbers. -/
import Derived.Test.YtomojokamaibaaaScM
import Derived.Test.YtomojokamaibaaaRowKit
import Derived.Test.YtomojokamaibaaaFnName
import Derived.Lib.OthersKept
import Derived.WalkSmall
import Derived.BigQuiet
namespace Go.Proofs.Ytomojokamaibaaa
open Go.RowKit Go.PlainAid G MGF IRow Sc M2
set_option linter.unusedVariables false
def txE : Enc ByteArray := ⟨1, fun t => [.string t], fun _ => rfl, by intro x v hv; simp at hv; subst hv; rfl⟩
def i6E : Enc Int := ⟨1, fun t => [.int .i64 t], fun _ => rfl, by intro x v hv; simp at hv; subst hv; rfl⟩
theorem infoTxt : (Try.prog.info? 9).map (fun i => (i.zero, i.size, i.bytes)) = some (some (.string ByteArray.empty), 1, 16) := by kernel_rfl
theorem infoI6 : (Try.prog.info? 2).map (fun i => (i.zero, i.size, i.bytes)) = some (some (.int .i64 0), 1, 8) := by kernel_rfl
/-- Two texts compared, as the walk has it. -/
theorem eq_lists (a b : ByteArray) : (a.toList == b.toList) = decide (a = b) := by
  by_cases h : a = b
  · subst h; simp
  · rw [decide_eq_false h, beq_eq_false_iff_ne]
    exact fun h2 => h (by rw [Lib.toList_data, Lib.toList_data] at h2; exact ByteArray.ext (Array.toList_inj.1 h2))
theorem ne_lists {a b : ByteArray} (h : a ≠ b) : (a.toList == b.toList) = false := by rw [eq_lists, decide_eq_false h]
theorem lit_ne {x : ByteArray} (l : List UInt8) (h : ¬ x = ⟨l.toArray⟩) : (x.toList == l) = false := by
  rw [beq_eq_false_iff_ne]
  intro e
  rw [Lib.toList_data] at e
  exact h (ByteArray.ext (by rw [← e]))
theorem lit_eq {x : ByteArray} (l : List UInt8) (h : x = ⟨l.toArray⟩) : (x.toList == l) = true := by
  rw [beq_iff_eq, Lib.toList_data, h]
/-- An own row does not lie where an iterator lies. -/
theorem own_iterS {w : World} {base : Nat} {e : TypeId} {size : Nat} {v : Value} {n : Nat} {xs : List Value} (h : w.ownsRow base e size v n xs) {k : Nat} {s : ByteArray} {p : Nat} (hk : w.heap[k]? = some (.stringIter s p)) (q : Nat) : (w.iterAt k s q).ownsRow base e size v n xs := by
  refine ⟨h.1, ?_⟩
  rcases h.2 with h2 | ⟨g, cap, cur, a, b, c, d⟩
  · exact .inl h2
  · refine .inr ⟨g, cap, cur, a, b, ?_, d⟩
    rw [Lib.iterAt_other _ _ _ _ _ (fun e1 => by rw [e1, hk] at c; cases c)]
    exact c
theorem own_ne_iterS {w : World} {base : Nat} {e : TypeId} {size : Nat} {v : Value} {n : Nat} {xs : List Value} (h : w.ownsRow base e size v n xs) {k : Nat} {s : ByteArray} {p : Nat} (hk : w.heap[k]? = some (.stringIter s p)) : some k ≠ v.ownBlock := by
  intro e1
  rcases h.2 with ⟨rfl, _⟩ | ⟨g, cap, cur, rfl, b, c, d⟩
  · cases e1
  · simp only [Value.ownBlock, Option.some.injEq] at e1
    rw [← e1, hk] at c
    cases c
set_option maxRecDepth 100000 in
set_option maxHeartbeats 1600000 in
theorem cutAt_any (s : ByteArray) (c : Int) (w : World) (hs : s.size ≤ 1048576) (hc : c < 128) :
    Calls Try.prog 12 #[.string s, .int .i32 c] w fun e w' => ∃ v, e = .returned (.tuple #[v, .string (restS s c)]) ∧ w'.ownsRow w.heap.size 9 txE.k v (piecesL s c).length (txE.flat (piecesL s c)) ∧ Below w.heap.size w w' := by
  obtain ⟨i0, hi, hz0, hz1, hz2⟩ := info_parts infoTxt
  have HIT := Lib.hid (World.iter_heap w s 0)
  have HB0 := Lib.hid (show Below w.heap.size w (w.iter s 0) from (Below.refl _ _).alloc (Nat.le_refl _) _)
  have HC := Lib.hid hc
  clear hc
  go_enter Try.func12, Try.ntmps12
  go_wp2_with fail
  go_loopw [6, 7] (fun v f wr => ∃ p : Nat, p ≤ s.size ∧ f = .int .i64 ((cutTo s c p).2 : Nat) ∧ wr.heap[w.heap.size]? = some (.stringIter s p) ∧ wr.ownsRow w.heap.size 9 txE.k v (cutTo s c p).1.length (txE.flat (cutTo s c p).1) ∧ Below w.heap.size w wr) (fun _ _ wr => s.size - wr.iterPos w.heap.size)
  case atStart => exact ⟨0, Nat.zero_le _, rfl, HIT.out, World.ownsRow_nil _ _ _ _, HB0.out⟩
  case round =>
    obtain ⟨p, hp, rfl, hit, hown, hbw⟩ := hrel
    clear HIT HB0
    have HPOS := Lib.hid (iterPos_of hit)
    have hfr := cut_from s c p
    have hll := cut_len s c p
    by_cases hlt : p < s.size
    · by_cases hlo : bt s p < 128
      · have hgb := get_bt s p hlt
        have hnx : ∀ ty, (Instr.next (.pointer (some ⟨w.heap.size, 0, none⟩)) true ty).run Try.prog wr = .ok (.tuple #[.bool true, .int .i64 p, .int .i32 (bt s p)]) (wr.iterAt w.heap.size s (p + 1)) := fun ty => by
          rw [Lib.run_next_ascii_at wr w.heap.size s p ty hit hlt (by omega), hgb]
        clear hgb
        have hit2 := Lib.iterAt_heap wr w.heap.size s p (p + 1) hit
        have hbw2 := Lib.below_iterAt hbw (k := w.heap.size) (Nat.le_refl _) s (p + 1)
        have hown2 := own_iterS hown hit (p + 1)
        obtain ⟨W1, hW1⟩ : ∃ W1, W1 = wr.iterAt w.heap.size s (p + 1) := ⟨_, rfl⟩
        rw [← hW1] at hnx hit2 hbw2 hown2
        have hsz := hbw2.size
        clear hW1 hit hown hbw
        have HIT2 := Lib.hid hit2
        have HBW2 := Lib.hid hbw2
        clear hit2 hbw2
        by_cases hx : bt s p = c
        · have HN := Lib.hid (cut_hit hx)
          have hxe : (bt s p == c) = true := by rw [hx]; simp
          have hll2 : (cutTo s c p).1.length ≤ 1048576 := by omega
          generalize hfe : (cutTo s c p).2 = fr at *
          generalize (cutTo s c p).1 = ls at *
          have hpi : (p : Int) ≤ s.size := by omega
          have hfp : (fr : Int) ≤ p := by omega
          have hf0 : 0 ≤ (fr : Int) := by omega
          have hp0 : 0 ≤ (p : Int) := by omega
          have hsl := fun W => run_slice_string (P := Try.prog) (w := W) 9 s .i64 .i64 (fr : Int) (p : Int) Try.underlying9 hf0 hfp hpi
          rw [Int.toNat_natCast, Int.toNat_natCast] at hsl
          generalize s.extract fr p = piece at *
          generalize bt s p = bp at *
          have hw1 : IntKind.i64.wrap ((p : Int) + 1) = (p : Int) + 1 := IntWalk.i64_in _ (by omega)
          clear hfe
          go_wp2_with (at_builtin; refine append_enc txE rfl (.tmp 19) (.tmp 24) 33 rfl 9 i0 (.string ByteArray.empty) 16 Try.underlying33 hi hz0 hz1 hz2 rfl (by decide) (by decide) w.heap.size _ _ _ rfl hown2 piece _ rfl _ rfl hsz hll2 ?_; intro v' w4 hown4 hg4 _; have HO4 := Lib.hid hown4; have HIT4 := Lib.hid ((hg4.block w.heap.size (Array.getElem?_eq_some_iff.1 HIT2.out).1 (own_ne_iterS hown2 HIT2.out)).trans HIT2.out); have HB4 := Lib.hid (below_grow HBW2.out hown2 (Nat.le_refl _) hg4 hsz); clear hown4 hg4 hown2)
          go_roundw
          case rel => exact ⟨p + 1, by omega, by rw [HN.out]; go_num, HIT4.out, by rw [HN.out]; simpa using HO4.out, HB4.out⟩
          case measure => rw [iterPos_of HIT4.out, HPOS.out]; omega
        · have HN := Lib.hid (cut_miss hx)
          have hxe : (bt s p == c) = false := by simpa using hx
          generalize hfe : (cutTo s c p).2 = fr at *
          generalize hle : (cutTo s c p).1 = ls at *
          generalize bt s p = bp at *
          have HO2 := Lib.hid hown2
          clear hown2
          go_wp2_with fail
          go_roundw
          case rel => exact ⟨p + 1, by omega, by rw [HN.out, hfe], HIT2.out, by rw [HN.out, hle]; exact HO2.out, HBW2.out⟩
          case measure => rw [iterPos_of HIT2.out, HPOS.out]; omega
      · obtain ⟨hcut, hle, hge, hne⟩ := cut_rune (c := c) hlt (by omega) HC.out
        have hnx : ∀ ty, (Instr.next (.pointer (some ⟨w.heap.size, 0, none⟩)) true ty).run Try.prog wr = _ := fun ty => Lib.run_next_any_at wr w.heap.size s p ty hit hlt
        generalize hde : (Utf8.decode s p).2 = m at *
        have hde1 := decode_le s p
        generalize (Utf8.decode s p).1 = r at *
        have hit2 := Lib.iterAt_heap wr w.heap.size s p (p + m) hit
        have hbw2 := Lib.below_iterAt hbw (k := w.heap.size) (Nat.le_refl _) s (p + m)
        have hown2 := own_iterS hown hit (p + m)
        obtain ⟨W1, hW1⟩ : ∃ W1, W1 = wr.iterAt w.heap.size s (p + m) := ⟨_, rfl⟩
        rw [← hW1] at hnx hit2 hbw2 hown2
        clear hW1 hit hown hbw hde
        have HN := Lib.hid hcut
        have hxe : ((r : Int) == c) = false := by rw [beq_eq_false_iff_ne]; omega
        have hxe2 : ¬ (r : Int) = c := by omega
        clear hcut
        generalize hfe : (cutTo s c p).2 = fr at *
        generalize hlf : (cutTo s c p).1 = ls at *
        have HO2 := Lib.hid hown2
        have HIT2 := Lib.hid hit2
        have HBW2 := Lib.hid hbw2
        clear hown2 hit2 hbw2
        go_wp2_with fail
        go_roundw
        case rel => exact ⟨p + m, hle, by rw [HN.out, hfe], HIT2.out, by rw [HN.out, hlf]; exact HO2.out, HBW2.out⟩
        case measure => rw [iterPos_of HIT2.out, HPOS.out]; omega
    · obtain rfl : p = s.size := by omega
      have hnx : ∀ ty, (Instr.next (.pointer (some ⟨w.heap.size, 0, none⟩)) true ty).run Try.prog wr = _ := fun ty => Lib.run_next_end_at wr w.heap.size s s.size ty hit hlt
      have HR := Lib.hid (show restS s c = s.extract (cutTo s c s.size).2 s.size from rfl)
      have HO := Lib.hid (show wr.ownsRow w.heap.size 9 txE.k _ (piecesL s c).length (txE.flat (piecesL s c)) from hown)
      have HB := Lib.hid hbw
      generalize (cutTo s c s.size).2 = fr at *
      have hf0 : 0 ≤ (fr : Int) := by omega
      have hfp : (fr : Int) ≤ s.size := by omega
      have hsl := fun W => run_slice_string_l (P := Try.prog) W 9 s Try.underlying9 .i64 (fr : Int) hf0 hfp
      rw [Int.toNat_natCast] at hsl
      rw [← HR.out] at hsl
      clear hown hbw hit
      go_wp2_with fail
      go_quiet (fail)
      go_wp2_with fail
      go_ret2
      exact ⟨_, rfl, HO.out, show Below w.heap.size w (wr.drewN _) from ⟨HB.out.os, HB.out.tape, HB.out.output, HB.out.size, HB.out.block⟩⟩
/-- Whether a text is among some. -/
def hasW (x : ByteArray) (ls : List ByteArray) : Bool := ls.any (fun y => decide (y = x))
theorem hasW_iff {x : ByteArray} {ls : List ByteArray} : hasW x ls = true ↔ x ∈ ls := by simp [hasW]
theorem hasW_no {x : ByteArray} {ls : List ByteArray} (h : x ∉ ls) : hasW x ls = false := by
  cases e : hasW x ls
  · rfl
  · exact absurd (hasW_iff.1 e) h
set_option maxRecDepth 100000 in
/-- slices.Index over texts: at least 0 where it is in there. -/
theorem indexS_any (a : Option Addr) (n cap : Nat) (ls : List ByteArray) (x : ByteArray) (w : World) (h : SR txE ByteArray.empty w a n cap ls) (hn : n ≤ 2097152) :
    Calls Try.prog 21 #[.slice a n cap, .string x] w fun e w' => ∃ r, e = .returned (.int .i64 r) ∧ (decide (0 ≤ r) = hasW x ls) ∧ w = w' := by
  have HL := Lib.hid h.len
  have HS := Lib.hid h
  clear h
  go_enter Try.func21, Try.ntmps21
  go_wp2_with fail
  go_loop [8] (fun i => ∃ k : Nat, k ≤ n ∧ i = .int .i64 k ∧ ∀ j, j < k → ls.getD j ByteArray.empty ≠ x) (fun i => n - (intOf i).toNat)
  case atStart => exact ⟨0, Nat.zero_le _, rfl, fun j hj => absurd hj (by omega)⟩
  case round =>
    obtain ⟨k, hk, rfl, hne⟩ := hrel
    have HNE := Lib.hid hne
    clear hne
    by_cases hlt : k < n
    · obtain ⟨g, o, rfl, hg, hc⟩ := HS.out.cells (by omega)
      have t0 := hc k hlt 0 _ rfl
      rw [show txE.k = 1 from rfl, Nat.mul_one, Nat.add_zero] at t0
      clear hc
      have hin : 0 ≤ (k : Int) ∧ (k : Int) < (n : Int) := by omega
      have hmem : ls.getD k ByteArray.empty ∈ ls := by rw [List.getD, List.getElem?_eq_getElem (by rw [HL.out]; exact hlt)]; exact List.getElem_mem _
      by_cases hx : ls.getD k ByteArray.empty = x
      · have HM := Lib.hid (show x ∈ ls from hx ▸ hmem)
        have he : (x.toList == (ls.getD k ByteArray.empty).toList) = true := by rw [hx]; simp
        clear hmem
        generalize ls.getD k ByteArray.empty = y at *
        go_wp2_with fail
        go_ret
        exact ⟨_, rfl, by rw [decide_eq_true (Int.natCast_nonneg _), hasW_iff.2 HM.out], rfl⟩
      · have he : (x.toList == (ls.getD k ByteArray.empty).toList) = false := ne_lists (fun e => hx e.symm)
        have HN : Hid (∀ j, j < k + 1 → ls.getD j ByteArray.empty ≠ x) := Lib.hid (fun j hj => by
          by_cases e : j = k
          · subst e; exact hx
          · exact HNE.out j (by omega))
        clear hmem hx
        generalize ls.getD k ByteArray.empty = y at *
        go_wp2_with fail
        go_round
        case rel => exact ⟨k + 1, by omega, by go_num, HN.out⟩
        case measure => simp [intOf]; omega
    · have HM : Hid (x ∉ ls) := Lib.hid (fun hm => by
        obtain ⟨j, hj, e⟩ := List.getElem_of_mem hm
        refine HNE.out j (by have := HL.out; omega) ?_
        rw [List.getD, List.getElem?_eq_getElem hj]
        exact e)
      go_wp2_with fail
      go_ret
      exact ⟨_, rfl, by rw [hasW_no HM.out]; decide, rfl⟩
theorem containsS_any (a : Option Addr) (n cap : Nat) (ls : List ByteArray) (x : ByteArray) (w : World) (h : SR txE ByteArray.empty w a n cap ls) (hn : n ≤ 2097152) :
    Calls Try.prog 19 #[.slice a n cap, .string x] w fun e w' => e = .returned (.bool (hasW x ls)) ∧ w = w' := by
  go_enter Try.func19, Try.ntmps19
  go_wp2_with (go_at_call 21; refine (indexS_any a n cap ls x _ h hn).mono ?_; rintro e w' ⟨r, rfl, hr, rfl⟩)
  go_ret
  exact ⟨ret_bool (by rw [← hr]), rfl⟩
set_option maxRecDepth 100000 in
set_option maxHeartbeats 1600000 in
theorem wordsIn_any (t : ByteArray) (w : World) (ht : t.size ≤ 1048576) :
    Calls Try.prog 16 #[.string t] w fun e w' => ∃ v, e = .returned (.tuple #[v, .bool (!hasW ByteArray.empty (wordsL t 32))]) ∧ w'.ownsRow w.heap.size 9 txE.k v (wordsL t 32).length (txE.flat (wordsL t 32)) ∧ Below w.heap.size w w' := by
  obtain ⟨i0, hi, hz0, hz1, hz2⟩ := info_parts infoTxt
  obtain ⟨ws, hws⟩ : ∃ ws, ws = wordsL t 32 := ⟨_, rfl⟩
  rw [← hws]
  have HWL := Lib.hid (show ws = piecesL t 32 ++ [restS t 32] from hws)
  have HWN := Lib.hid (show ws.length = (piecesL t 32).length + 1 by rw [hws]; exact words_len t 32)
  clear hws
  have hpl := pieces_len t 32
  go_enter Try.func16, Try.ntmps16
  go_wp2_with fail
  refine (cutAt_any t 32 w ht (by decide)).mono ?_
  rintro e w1 ⟨v, rfl, hown, hb⟩
  have hll : (piecesL t 32).length ≤ 1048576 := by omega
  have HB := Lib.hid hb
  have hsz := hb.size
  clear hb
  generalize piecesL t 32 = ls at *
  generalize restS t 32 = rs at *
  go_wp2_with (at_builtin; refine append_enc txE rfl (.tmp 11) (.tmp 13) 33 rfl 9 i0 (.string ByteArray.empty) 16 Try.underlying33 hi hz0 hz1 hz2 rfl (by decide) (by decide) w.heap.size _ _ _ rfl hown rs _ rfl _ rfl hsz hll ?_; intro v' w4 hown4 hg4 _; have HB4 := Lib.hid (below_grow HB.out hown (Nat.le_refl _) hg4 hsz); clear hg4 hown)
  rw [← HWL.out, ← HWN.out] at hown4
  obtain ⟨ar, cr, rfl⟩ := own_shape hown4
  have hnn : ws.length ≤ 2097152 := by have := HWN.out; omega
  have HO4 := Lib.hid hown4
  have HS4 := Lib.hid (SR.own (E := txE) (d := ByteArray.empty) (by decide) hown4)
  clear hown4
  have HNN := Lib.hid (show ws.length = ws.length from rfl)
  go_wp2_with fail
  refine (containsS_any ar ws.length cr ws ByteArray.empty w4 HS4.out hnn).mono ?_
  rintro e w5 ⟨rfl, rfl⟩
  go_wp2_with fail
  go_ret2
  exact ⟨_, rfl, HO4.out, HB4.out⟩
theorem numOk_of {s : ByteArray} (h9 : s.size ≤ 9) (h0 : ¬ (1 < s.size ∧ bt s 0 = 48)) : numOk s = digsTo s s.size := by
  unfold numOk
  have e : (decide (1 < s.size) && decide (bt s 0 = 48)) = false := by
    rw [Bool.and_eq_false_iff]
    by_cases h : 1 < s.size
    · exact .inr (decide_eq_false (fun h2 => h0 ⟨h, h2⟩))
    · exact .inl (decide_eq_false h)
  rw [e, decide_eq_true h9]
  simp
theorem numOk_not {s : ByteArray} (h : 9 < s.size ∨ 1 < s.size ∧ bt s 0 = 48) : numOk s = false := by
  unfold numOk
  rcases h with h | h
  · simp [show ¬ s.size ≤ 9 by omega]
  · simp [h.1, h.2]
/-- What a number tells: 0 where it is none. -/
def numR (s : ByteArray) : Int := if numOk s = true then numV s s.size else 0
theorem numR_yes {s : ByteArray} (h : numOk s = true) : numR s = numV s s.size := if_pos h
theorem numR_no {s : ByteArray} (h : numOk s = false) : numR s = 0 := if_neg (by rw [h]; decide)
set_option maxRecDepth 100000 in
set_option maxHeartbeats 1600000 in
theorem numberIn_any (s : ByteArray) (w : World) (hs : s.size ≤ 1048576) :
    Calls Try.prog 18 #[.string s] w fun e w' => e = .returned (.tuple #[.int .i64 (numR s), .bool (numOk s)]) ∧ w = w' := by
  have hb := PlainAid.get_bt s
  by_cases hbad : 9 < s.size ∨ 1 < s.size ∧ bt s 0 = 48
  · have HF := Lib.hid (numOk_not hbad)
    by_cases h9 : 9 < s.size
    · go_enter Try.func18, Try.ntmps18
      go_wp2_with fail
      go_ret2
      exact ⟨by rw [numR_no HF.out, HF.out]; rfl, rfl⟩
    · have h1 : 1 < s.size := by omega
      have h0 : bt s 0 = 48 := by omega
      go_enter Try.func18, Try.ntmps18
      go_wp2_with fail
      go_ret2
      exact ⟨by rw [numR_no HF.out, HF.out]; rfl, rfl⟩
  · have h9 : s.size ≤ 9 := by omega
    have h9i : decide ((9 : Int) < (s.size : Int)) = false := decide_eq_false (by omega)
    have h9j : ¬ (9 : Int) < (s.size : Int) := by omega
    have HE := Lib.hid (numOk_of h9 (fun h => hbad (.inr h)))
    by_cases h1 : 1 < s.size
    · have h0 : ¬ bt s 0 = 48 := fun h => hbad (.inr ⟨h1, h⟩)
      clear hbad
      go_enter Try.func18, Try.ntmps18
      go_wp2_with fail
      go_loop [4, 21] (fun v i => ∃ k : Nat, k ≤ s.size ∧ v = .int .i64 (numV s k) ∧ i = .int .i64 k ∧ digsTo s k = true) (fun _ i => s.size - (intOf i).toNat)
      case atStart => exact ⟨0, Nat.zero_le _, rfl, rfl, rfl⟩
      case round =>
        obtain ⟨k, hk, rfl, rfl, hdg⟩ := hrel
        have HD := Lib.hid hdg
        by_cases hlt : k < s.size
        · have hnv := numV_le hdg (by omega)
          clear hdg
          cases hdb : digB (bt s k)
          · have HF : Hid (numOk s = false) := Lib.hid (by rw [HE.out]; exact digs_false hlt hdb)
            go_wp2_with (go_at_call 20; refine (isDigit_any _ _).mono ?_; rintro e w' ⟨rfl, rfl⟩)
            go_ret2
            exact ⟨by rw [numR_no HF.out, HF.out]; rfl, rfl⟩
          · have HN : Hid (digsTo s (k + 1) = true) := Lib.hid (by unfold digsTo; rw [HD.out, hdb]; rfl)
            have HV : Hid (numV s (k + 1) = 10 * numV s k + (bt s k - 48)) := Lib.hid rfl
            have hd2 := digB_true.1 hdb
            have hw8 : IntKind.u8.wrap (bt s k - 48) = bt s k - 48 := by rw [IntKind.wrap_u8]; omega
            have hw64 : IntKind.i64.wrap (bt s k - 48) = bt s k - 48 := IntWalk.i64_in _ (by omega)
            have hwm : IntKind.i64.wrap (10 * numV s k) = 10 * numV s k := IntWalk.i64_in _ (by omega)
            have hws : IntKind.i64.wrap (10 * numV s k + (bt s k - 48)) = 10 * numV s k + (bt s k - 48) := IntWalk.i64_in _ (by omega)
            generalize numV s k = nv at *
            go_wp2_with (go_at_call 20; refine (isDigit_any _ _).mono ?_; rintro e w' ⟨rfl, rfl⟩)
            go_round
            case rel => exact ⟨k + 1, by omega, by rw [HV.out], by go_num, HN.out⟩
            case measure => simp [intOf]; omega
        · obtain rfl : k = s.size := by omega
          clear hdg
          have HF : Hid (numOk s = true) := Lib.hid (by rw [HE.out]; exact HD.out)
          go_wp2_with fail
          go_ret2
          exact ⟨by rw [numR_yes HF.out, HF.out]; rfl, rfl⟩
    · clear hbad
      go_enter Try.func18, Try.ntmps18
      go_wp2_with fail
      go_loop [4, 21] (fun v i => ∃ k : Nat, k ≤ s.size ∧ v = .int .i64 (numV s k) ∧ i = .int .i64 k ∧ digsTo s k = true) (fun _ i => s.size - (intOf i).toNat)
      case atStart => exact ⟨0, Nat.zero_le _, rfl, rfl, rfl⟩
      case round =>
        obtain ⟨k, hk, rfl, rfl, hdg⟩ := hrel
        have HD := Lib.hid hdg
        by_cases hlt : k < s.size
        · have hnv := numV_le hdg (by omega)
          clear hdg
          cases hdb : digB (bt s k)
          · have HF : Hid (numOk s = false) := Lib.hid (by rw [HE.out]; exact digs_false hlt hdb)
            go_wp2_with (go_at_call 20; refine (isDigit_any _ _).mono ?_; rintro e w' ⟨rfl, rfl⟩)
            go_ret2
            exact ⟨by rw [numR_no HF.out, HF.out]; rfl, rfl⟩
          · have HN : Hid (digsTo s (k + 1) = true) := Lib.hid (by unfold digsTo; rw [HD.out, hdb]; rfl)
            have HV : Hid (numV s (k + 1) = 10 * numV s k + (bt s k - 48)) := Lib.hid rfl
            have hd2 := digB_true.1 hdb
            have hw8 : IntKind.u8.wrap (bt s k - 48) = bt s k - 48 := by rw [IntKind.wrap_u8]; omega
            have hw64 : IntKind.i64.wrap (bt s k - 48) = bt s k - 48 := IntWalk.i64_in _ (by omega)
            have hwm : IntKind.i64.wrap (10 * numV s k) = 10 * numV s k := IntWalk.i64_in _ (by omega)
            have hws : IntKind.i64.wrap (10 * numV s k + (bt s k - 48)) = 10 * numV s k + (bt s k - 48) := IntWalk.i64_in _ (by omega)
            generalize numV s k = nv at *
            go_wp2_with (go_at_call 20; refine (isDigit_any _ _).mono ?_; rintro e w' ⟨rfl, rfl⟩)
            go_round
            case rel => exact ⟨k + 1, by omega, by rw [HV.out], by go_num, HN.out⟩
            case measure => simp [intOf]; omega
        · obtain rfl : k = s.size := by omega
          clear hdg
          have HF : Hid (numOk s = true) := Lib.hid (by rw [HE.out]; exact HD.out)
          go_wp2_with fail
          go_ret2
          exact ⟨by rw [numR_yes HF.out, HF.out]; rfl, rfl⟩
end Go.Proofs.Ytomojokamaibaaa
