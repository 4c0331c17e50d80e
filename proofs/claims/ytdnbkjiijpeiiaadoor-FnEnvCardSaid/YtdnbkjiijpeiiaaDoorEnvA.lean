/- Right envelopes, and their bytes: what the program's functions and the model's answer. -/
import Derived.Test.YtdnbkjiijpeiiaaDoorSplA
import Derived.Test.YtdnbkjiijpeiiaaDoorSSpA
import Derived.Test.YtdnbkjiijpeiiaaDoorFnPutText
import Derived.Deep.RegionHeld3
namespace Go.Proofs.YtdnbkjiijpeiiaaDoor
open Go.RowKit Go.PlainAid G MGF IRow MNum MJoin
set_option linter.unusedVariables false
def numsB (g n m : Int) : Bool := decide (1 ≤ g ∧ g ≤ 999) && manyB n m
/-- Is it a right envelope? -/
def envB (g n m x : Int) (t : ByteArray) : Bool := numsB g n m && (decide (1 ≤ x ∧ x ≤ m) && secB t)
/-- What its bytes hold. -/
def envT (g n m x : Int) (t : ByteArray) : ByteArray := numS g ++ numS n ++ numS m ++ numS x ++ putTextS t
/-- Its bytes. -/
def envS (g n m x : Int) (t : ByteArray) : ByteArray := if envB g n m x t = true then sealS (envT g n m x t) else ⟨#[]⟩
theorem envS_yes {g n m x : Int} {t : ByteArray} (h : envB g n m x t = true) : envS g n m x t = sealS (envT g n m x t) := by unfold envS; rw [if_pos h]
theorem envS_no {g n m x : Int} {t : ByteArray} (h : envB g n m x t = false) : envS g n m x t = ⟨#[]⟩ := by unfold envS; rw [if_neg (by rw [h]; decide)]
theorem envB_bounds {g n m x : Int} {t : ByteArray} (h : envB g n m x t = true) : (1 ≤ g ∧ g ≤ 999) ∧ (1 ≤ n ∧ n ≤ 10) ∧ (n ≤ m ∧ m ≤ 20) ∧ (1 ≤ x ∧ x ≤ m) ∧ (1 ≤ t.size ∧ t.size ≤ 16) := by
  unfold envB numsB manyB needB secB at h
  simp only [Bool.and_eq_true, decide_eq_true_eq] at h
  exact ⟨h.1.1, h.1.2.1, h.1.2.2, h.2.1, h.2.2⟩
theorem envB_of {g n m x : Int} {t : ByteArray} (h1 : 1 ≤ g ∧ g ≤ 999) (h2 : 1 ≤ n ∧ n ≤ 10) (h3 : n ≤ m ∧ m ≤ 20) (h4 : 1 ≤ x ∧ x ≤ m) (h5 : 1 ≤ t.size ∧ t.size ≤ 16) : envB g n m x t = true := by
  unfold envB numsB manyB needB secB
  simp only [Bool.and_eq_true, decide_eq_true_eq]
  exact ⟨⟨h1, h2, h3⟩, h4, h5⟩
theorem catS_five (a b c d e : ByteArray) : catS [a, b, c, d, e] = a ++ b ++ c ++ d ++ e := by
  apply ByteArray.ext
  apply Array.toList_inj.1
  simp [catS, catL]
/-- Five texts, in a list that the call lays. -/
theorem joined_five (a b c d e : ByteArray) (T : TypeId) (w : World) (ha : a.size ≤ 1000000) (hb : b.size ≤ 1000000) (hc : c.size ≤ 1000000) (hd : d.size ≤ 1000000) (he : e.size ≤ 1000000) :
    Calls Tryd.prog 21 #[.slice (some ⟨w.heap.size, 0, none⟩) 5 5] (w.alloc (.cells #[.string a, .string b, .string c, .string d, .string e] T)) fun r w' => r = .returned (.string (a ++ b ++ c ++ d ++ e)) ∧ Below w.heap.size w w' := by
  refine (joined_any w.heap.size 0 5 [a, b, c, d, e] (w.alloc (.cells #[.string a, .string b, .string c, .string d, .string e] T)) (by simp) ?_ (by simp) (by simp [sumL]; omega)).mono ?_
  · intro k hk
    match k, hk with
    | 0, _ => simp
    | 1, _ => simp
    | 2, _ => simp
    | 3, _ => simp
    | 4, _ => simp
    | k + 5, hk => simp at hk; omega
  · rintro r w' ⟨rfl, hb⟩
    exact ⟨by rw [catS_five], ((Below.refl _ _).alloc (Nat.le_refl _) _).trans (hb.mono (by simp))⟩
theorem implEnvRight_any (g n m x : Int) (t : ByteArray) (w : World) (ht : t.size ≤ maxLen) :
    Calls Tryd.prog 14 #[.agg #[.int .i64 g, .int .i64 n, .int .i64 m, .int .i64 x, .string t]] w fun e w' => e = .returned (.bool (envB g n m x t)) ∧ Below w.heap.size w w' := by
  have HT := Lib.hid ht
  have HB : Hid (Below w.heap.size w (w.alloc (.cells #[.int .i64 g, .int .i64 n, .int .i64 m, .int .i64 x, .string t] 24))) := Lib.hid ((Below.refl _ _).alloc (Nat.le_refl _) _)
  clear ht
  by_cases h1 : 1 ≤ g
  · by_cases h2 : g ≤ 999
    · cases hm : manyB n m
      · skip
        have HF : Hid (false = envB g n m x t) := Lib.hid (by unfold envB numsB; rw [hm, Bool.and_false, Bool.false_and])
        go_enter Tryd.func14, Tryd.ntmps14
        go_wp2_with (first | (go_at_call 42; refine (manyRight_any n m _).mono ?_; rintro e w1 ⟨rfl, rfl⟩; rw [hm]) | (go_at_call 43; refine (secretRight_any t _ HT.out).mono ?_; rintro e w1 ⟨rfl, rfl⟩; rw [hs]))
        go_ret
        exact ⟨ret_bool HF.out, HB.out⟩
      · by_cases h3 : 1 ≤ x
        · by_cases h4 : x ≤ m
          · cases hs : secB t
            · skip
              have HF : Hid (false = envB g n m x t) := Lib.hid (by unfold envB numsB; rw [hs, Bool.and_false, Bool.and_false])
              go_enter Tryd.func14, Tryd.ntmps14
              go_wp2_with (first | (go_at_call 42; refine (manyRight_any n m _).mono ?_; rintro e w1 ⟨rfl, rfl⟩; rw [hm]) | (go_at_call 43; refine (secretRight_any t _ HT.out).mono ?_; rintro e w1 ⟨rfl, rfl⟩; rw [hs]))
              go_ret
              exact ⟨ret_bool HF.out, HB.out⟩
            · skip
              have HF : Hid (true = envB g n m x t) := Lib.hid (by unfold envB numsB; rw [hs, hm, decide_eq_true ⟨h1, h2⟩, decide_eq_true ⟨h3, h4⟩]; rfl)
              go_enter Tryd.func14, Tryd.ntmps14
              go_wp2_with (first | (go_at_call 42; refine (manyRight_any n m _).mono ?_; rintro e w1 ⟨rfl, rfl⟩; rw [hm]) | (go_at_call 43; refine (secretRight_any t _ HT.out).mono ?_; rintro e w1 ⟨rfl, rfl⟩; rw [hs]))
              go_ret
              exact ⟨ret_bool HF.out, HB.out⟩
          · skip
            have HF : Hid (false = envB g n m x t) := Lib.hid (by unfold envB numsB; rw [decide_eq_false (p := 1 ≤ x ∧ x ≤ m) (by omega), Bool.false_and, Bool.and_false])
            go_enter Tryd.func14, Tryd.ntmps14
            go_wp2_with (first | (go_at_call 42; refine (manyRight_any n m _).mono ?_; rintro e w1 ⟨rfl, rfl⟩; rw [hm]) | (go_at_call 43; refine (secretRight_any t _ HT.out).mono ?_; rintro e w1 ⟨rfl, rfl⟩; rw [hs]))
            go_ret
            exact ⟨ret_bool HF.out, HB.out⟩
        · skip
          have HF : Hid (false = envB g n m x t) := Lib.hid (by unfold envB numsB; rw [decide_eq_false (p := 1 ≤ x ∧ x ≤ m) (by omega), Bool.false_and, Bool.and_false])
          go_enter Tryd.func14, Tryd.ntmps14
          go_wp2_with (first | (go_at_call 42; refine (manyRight_any n m _).mono ?_; rintro e w1 ⟨rfl, rfl⟩; rw [hm]) | (go_at_call 43; refine (secretRight_any t _ HT.out).mono ?_; rintro e w1 ⟨rfl, rfl⟩; rw [hs]))
          go_ret
          exact ⟨ret_bool HF.out, HB.out⟩
    · skip
      have HF : Hid (false = envB g n m x t) := Lib.hid (by unfold envB numsB; rw [decide_eq_false (p := 1 ≤ g ∧ g ≤ 999) (by omega), Bool.false_and, Bool.false_and])
      go_enter Tryd.func14, Tryd.ntmps14
      go_wp2_with (first | (go_at_call 42; refine (manyRight_any n m _).mono ?_; rintro e w1 ⟨rfl, rfl⟩; rw [hm]) | (go_at_call 43; refine (secretRight_any t _ HT.out).mono ?_; rintro e w1 ⟨rfl, rfl⟩; rw [hs]))
      go_ret
      exact ⟨ret_bool HF.out, HB.out⟩
  · skip
    have HF : Hid (false = envB g n m x t) := Lib.hid (by unfold envB numsB; rw [decide_eq_false (p := 1 ≤ g ∧ g ≤ 999) (by omega), Bool.false_and, Bool.false_and])
    go_enter Tryd.func14, Tryd.ntmps14
    go_wp2_with (first | (go_at_call 42; refine (manyRight_any n m _).mono ?_; rintro e w1 ⟨rfl, rfl⟩; rw [hm]) | (go_at_call 43; refine (secretRight_any t _ HT.out).mono ?_; rintro e w1 ⟨rfl, rfl⟩; rw [hs]))
    go_ret
    exact ⟨ret_bool HF.out, HB.out⟩
theorem l05Nums_any (g n m : Int) (w : World) :
    Calls Tryd.prog 44 #[.int .i64 g, .int .i64 n, .int .i64 m] w fun e w' => e = .returned (.bool (numsB g n m)) ∧ w = w' := by
  cases hg : decide (1 ≤ g ∧ g ≤ 999)
  · skip
    have HF : Hid (false = numsB g n m) := Lib.hid (by unfold numsB manyB needB; rw [hg, Bool.false_and])
    go_enter Tryd.func44, Tryd.ntmps44
    go_wp2_with (go_at_call 45; refine (l02Is_any _ _ _ _).mono ?_; rintro e w1 ⟨rfl, rfl⟩; first | rw [hg] | rw [hn] | rw [hm])
    go_ret
    exact ⟨ret_bool HF.out, rfl⟩
  · cases hn : decide (1 ≤ n ∧ n ≤ 10)
    · skip
      have HF : Hid (false = numsB g n m) := Lib.hid (by unfold numsB manyB needB; rw [hn, Bool.false_and, Bool.and_false])
      go_enter Tryd.func44, Tryd.ntmps44
      go_wp2_with (go_at_call 45; refine (l02Is_any _ _ _ _).mono ?_; rintro e w1 ⟨rfl, rfl⟩; first | rw [hg] | rw [hn] | rw [hm])
      go_ret
      exact ⟨ret_bool HF.out, rfl⟩
    · cases hm : decide (n ≤ m ∧ m ≤ 20)
      · skip
        have HF : Hid (false = numsB g n m) := Lib.hid (by unfold numsB manyB needB; rw [hm, Bool.and_false, Bool.and_false])
        go_enter Tryd.func44, Tryd.ntmps44
        go_wp2_with (go_at_call 45; refine (l02Is_any _ _ _ _).mono ?_; rintro e w1 ⟨rfl, rfl⟩; first | rw [hg] | rw [hn] | rw [hm])
        go_ret
        exact ⟨ret_bool HF.out, rfl⟩
      · skip
        have HF : Hid (true = numsB g n m) := Lib.hid (by unfold numsB manyB needB; rw [hg, hn, hm]; rfl)
        go_enter Tryd.func44, Tryd.ntmps44
        go_wp2_with (go_at_call 45; refine (l02Is_any _ _ _ _).mono ?_; rintro e w1 ⟨rfl, rfl⟩; first | rw [hg] | rw [hn] | rw [hm])
        go_ret
        exact ⟨ret_bool HF.out, rfl⟩
theorem specEnvRight_any (g n m x : Int) (t : ByteArray) (w : World) (ht : t.size ≤ maxLen) :
    Calls Tryd.prog 15 #[.agg #[.int .i64 g, .int .i64 n, .int .i64 m, .int .i64 x, .string t]] w fun e w' => e = .returned (.bool (envB g n m x t)) ∧ Below w.heap.size w w' := by
  have HT := Lib.hid ht
  have HB : Hid (Below w.heap.size w (w.alloc (.cells #[.int .i64 g, .int .i64 n, .int .i64 m, .int .i64 x, .string t] 24))) := Lib.hid ((Below.refl _ _).alloc (Nat.le_refl _) _)
  clear ht
  cases hn : numsB g n m
  · skip
    have HF : Hid (false = envB g n m x t) := Lib.hid (by unfold envB ; rw [hn, Bool.false_and])
    go_enter Tryd.func15, Tryd.ntmps15
    go_wp2_with (first | (go_at_call 44; refine (l05Nums_any g n m _).mono ?_; rintro e w1 ⟨rfl, rfl⟩; rw [hn]) | (go_at_call 45; refine (l02Is_any x 1 m _).mono ?_; rintro e w1 ⟨rfl, rfl⟩; rw [hx]) | (go_at_call 46; refine (l04Secret_any t _ HT.out).mono ?_; rintro e w1 ⟨rfl, rfl⟩; rw [hs]))
    go_ret
    exact ⟨ret_bool HF.out, HB.out⟩
  · cases hx : decide (1 ≤ x ∧ x ≤ m)
    · skip
      have HF : Hid (false = envB g n m x t) := Lib.hid (by unfold envB ; rw [hx, Bool.false_and, Bool.and_false])
      go_enter Tryd.func15, Tryd.ntmps15
      go_wp2_with (first | (go_at_call 44; refine (l05Nums_any g n m _).mono ?_; rintro e w1 ⟨rfl, rfl⟩; rw [hn]) | (go_at_call 45; refine (l02Is_any x 1 m _).mono ?_; rintro e w1 ⟨rfl, rfl⟩; rw [hx]) | (go_at_call 46; refine (l04Secret_any t _ HT.out).mono ?_; rintro e w1 ⟨rfl, rfl⟩; rw [hs]))
      go_ret
      exact ⟨ret_bool HF.out, HB.out⟩
    · cases hs : secB t
      · skip
        have HF : Hid (false = envB g n m x t) := Lib.hid (by unfold envB ; rw [hs, Bool.and_false, Bool.and_false])
        go_enter Tryd.func15, Tryd.ntmps15
        go_wp2_with (first | (go_at_call 44; refine (l05Nums_any g n m _).mono ?_; rintro e w1 ⟨rfl, rfl⟩; rw [hn]) | (go_at_call 45; refine (l02Is_any x 1 m _).mono ?_; rintro e w1 ⟨rfl, rfl⟩; rw [hx]) | (go_at_call 46; refine (l04Secret_any t _ HT.out).mono ?_; rintro e w1 ⟨rfl, rfl⟩; rw [hs]))
        go_ret
        exact ⟨ret_bool HF.out, HB.out⟩
      · skip
        have HF : Hid (true = envB g n m x t) := Lib.hid (by unfold envB ; rw [hn, hx, hs]; rfl)
        go_enter Tryd.func15, Tryd.ntmps15
        go_wp2_with (first | (go_at_call 44; refine (l05Nums_any g n m _).mono ?_; rintro e w1 ⟨rfl, rfl⟩; rw [hn]) | (go_at_call 45; refine (l02Is_any x 1 m _).mono ?_; rintro e w1 ⟨rfl, rfl⟩; rw [hx]) | (go_at_call 46; refine (l04Secret_any t _ HT.out).mono ?_; rintro e w1 ⟨rfl, rfl⟩; rw [hs]))
        go_ret
        exact ⟨ret_bool HF.out, HB.out⟩
theorem i64_of {n : Int} (h0 : 0 ≤ n) (h1 : n ≤ 1000) : i64P n := by unfold i64P; omega
theorem envT_size {g n m x : Int} {t : ByteArray} (h : t.size ≤ 16) : (envT g n m x t).size ≤ 66 := by
  unfold envT
  rw [putTextS_short (by omega)]
  have h1 := (numS_size g).2; have h2 := (numS_size n).2; have h3 := (numS_size m).2; have h4 := (numS_size x).2; have h5 := (numS_size t.size).2
  simp only [ByteArray.size_append]
  omega
theorem putTextS_size {t : ByteArray} (h : t.size ≤ 16) : (putTextS t).size ≤ 26 := by
  rw [putTextS_short (by omega), ByteArray.size_append]
  have h5 := (numS_size t.size).2
  omega
set_option maxRecDepth 100000 in
set_option maxHeartbeats 3200000 in
theorem l05Bytes_any (g n m x : Int) (t : ByteArray) (w : World) (hB : envB g n m x t = true) :
    Calls Tryd.prog 38 #[.agg #[.int .i64 g, .int .i64 n, .int .i64 m, .int .i64 x, .string t]] w fun e w' => e = .returned (.string (envS g n m x t)) ∧ Below w.heap.size w w' := by
  have HS := Lib.hid (envS_yes hB)
  obtain ⟨⟨hg1, hg2⟩, ⟨hn1, hn2⟩, ⟨hm1, hm2⟩, ⟨hx1, hx2⟩, ht1, ht2⟩ := envB_bounds hB
  have ig : Hid (i64P g) := Lib.hid (i64_of (by omega) (by omega))
  have iN : Hid (i64P n) := Lib.hid (i64_of (by omega) (by omega))
  have im : Hid (i64P m) := Lib.hid (i64_of (by omega) (by omega))
  have ix : Hid (i64P x) := Lib.hid (i64_of (by omega) (by omega))
  have HTL : Hid (t.size ≤ maxLen) := Lib.hid (by unfold maxLen; omega)
  have zg := Lib.hid (numS_size g).2
  have zn := Lib.hid (numS_size n).2
  have zm := Lib.hid (numS_size m).2
  have zx := Lib.hid (numS_size x).2
  have zt := Lib.hid (putTextS_size ht2)
  have HZT : Hid ((envT g n m x t).size ≤ maxLen) := Lib.hid (by have := envT_size (g := g) (n := n) (m := m) (x := x) ht2; unfold maxLen; omega)
  clear hg1 hg2 hn1 hn2 hm1 hm2 hx1 hx2 ht1 ht2
  clear hB
  obtain ⟨W, hW⟩ : ∃ W, W = w.alloc (.cells #[.int .i64 g, .int .i64 n, .int .i64 m, .int .i64 x, .string t] 24) := ⟨_, rfl⟩
  have c0 : W.cell? ⟨w.heap.size, 0, none⟩ = some (.int .i64 g) := by rw [hW]; simp
  have c1 : W.cell? ⟨w.heap.size, 1, none⟩ = some (.int .i64 n) := by rw [hW]; simp
  have c2 : W.cell? ⟨w.heap.size, 2, none⟩ = some (.int .i64 m) := by rw [hW]; simp
  have c3 : W.cell? ⟨w.heap.size, 3, none⟩ = some (.int .i64 x) := by rw [hW]; simp
  have c4 : W.cell? ⟨w.heap.size, 4, none⟩ = some (.string t) := by rw [hW]; simp
  have cz : w.heap.size < W.heap.size := by rw [hW]; simp
  have cb : Below w.heap.size w W := by rw [hW]; exact (Below.refl _ _).alloc (Nat.le_refl _) _
  obtain ⟨F, hF⟩ : ∃ F : World → Prop, F = fun u => Below w.heap.size w u ∧ w.heap.size < u.heap.size ∧ u.cell? ⟨w.heap.size, 0, none⟩ = some (.int .i64 g) ∧ u.cell? ⟨w.heap.size, 1, none⟩ = some (.int .i64 n) ∧ u.cell? ⟨w.heap.size, 2, none⟩ = some (.int .i64 m) ∧ u.cell? ⟨w.heap.size, 3, none⟩ = some (.int .i64 x) ∧ u.cell? ⟨w.heap.size, 4, none⟩ = some (.string t) := ⟨_, rfl⟩
  have F0 : F W := by rw [hF]; exact ⟨cb, cz, c0, c1, c2, c3, c4⟩
  have FB : Hid (∀ u v, F u → Below u.heap.size u v → F v) := Lib.hid (by
    rw [hF]
    rintro u v ⟨a, z, b0, b1, b2, b3, b4⟩ hb
    exact ⟨a.trans (hb.mono a.size), Nat.lt_of_lt_of_le z hb.size, (hb.cell (p := ⟨w.heap.size, 0, none⟩) z).trans b0, (hb.cell (p := ⟨w.heap.size, 1, none⟩) z).trans b1, (hb.cell (p := ⟨w.heap.size, 2, none⟩) z).trans b2, (hb.cell (p := ⟨w.heap.size, 3, none⟩) z).trans b3, (hb.cell (p := ⟨w.heap.size, 4, none⟩) z).trans b4⟩)
  have gB : Hid (∀ u, F u → Below w.heap.size w u) := Lib.hid (by rw [hF]; exact fun u h => h.1)
  have gS : Hid (∀ u, F u → (F u ∧ u.cell? ⟨w.heap.size, 0, none⟩ = some (.int .i64 g) ∧ u.cell? ⟨w.heap.size, 1, none⟩ = some (.int .i64 n) ∧ u.cell? ⟨w.heap.size, 2, none⟩ = some (.int .i64 m) ∧ u.cell? ⟨w.heap.size, 3, none⟩ = some (.int .i64 x) ∧ u.cell? ⟨w.heap.size, 4, none⟩ = some (.string t))) := Lib.hid (by rw [hF]; exact fun u h => ⟨h, h.2.2⟩)
  clear hF cb cz c0 c1 c2 c3 c4
  have hFn := FB.out _ _ F0 (Below.refl _ _).drew
  have Pg : Hid (∀ u, Calls Tryd.prog 28 #[.int .i64 g] u fun e w' => e = .returned (.string (numS g)) ∧ Below u.heap.size u w') := Lib.hid (fun u => specPutNum_any g u ig.out)
  have Pn : Hid (∀ u, Calls Tryd.prog 28 #[.int .i64 n] u fun e w' => e = .returned (.string (numS n)) ∧ Below u.heap.size u w') := Lib.hid (fun u => specPutNum_any n u iN.out)
  have Pm : Hid (∀ u, Calls Tryd.prog 28 #[.int .i64 m] u fun e w' => e = .returned (.string (numS m)) ∧ Below u.heap.size u w') := Lib.hid (fun u => specPutNum_any m u im.out)
  have Px : Hid (∀ u, Calls Tryd.prog 28 #[.int .i64 x] u fun e w' => e = .returned (.string (numS x)) ∧ Below u.heap.size u w') := Lib.hid (fun u => specPutNum_any x u ix.out)
  have Pt : Hid (∀ u, Calls Tryd.prog 29 #[.string t] u fun e w' => e = .returned (.string (putTextS t)) ∧ Below u.heap.size u w') := Lib.hid (fun u => specPutText_any t u HTL.out)
  have HTT : Hid (numS g ++ numS n ++ numS m ++ numS x ++ putTextS t = envT g n m x t) := Lib.hid rfl
  generalize numS g = bg at *
  generalize numS n = bn at *
  generalize numS m = bm at *
  generalize numS x = bx at *
  generalize putTextS t = bt at *
  have q1 := zg.out
  have q2 := zn.out
  have q3 := zm.out
  have q4 := zx.out
  have q5 := zt.out
  have q6 : (bg ++ bn).size ≤ 20 := by rw [ByteArray.size_append]; omega
  have q7 : (bg ++ bn ++ bm).size ≤ 30 := by rw [ByteArray.size_append]; omega
  have q8 : (bg ++ bn ++ bm ++ bx).size ≤ 40 := by rw [ByteArray.size_append]; omega
  have r1 : ∀ u : World, (Op.stringOp .add bg bn).run Tryd.prog u = .ok (.string (bg ++ bn)) u := fun u => run_string_add_sum u _ _ (by omega)
  have r2 : ∀ u : World, (Op.stringOp .add (bg ++ bn) bm).run Tryd.prog u = .ok (.string (bg ++ bn ++ bm)) u := fun u => run_string_add_sum u _ _ (by omega)
  have r3 : ∀ u : World, (Op.stringOp .add (bg ++ bn ++ bm) bx).run Tryd.prog u = .ok (.string (bg ++ bn ++ bm ++ bx)) u := fun u => run_string_add_sum u _ _ (by omega)
  have r4 : ∀ u : World, (Op.stringOp .add (bg ++ bn ++ bm ++ bx) bt).run Tryd.prog u = .ok (.string (bg ++ bn ++ bm ++ bx ++ bt)) u := fun u => run_string_add_sum u _ _ (by omega)
  have HQ : Hid ((bg ++ bn ++ bm ++ bx ++ bt).size ≤ maxLen) := Lib.hid (by rw [ByteArray.size_append]; unfold maxLen; omega)
  clear zg zn zm zx zt q1 q2 q3 q4 q5 q6 q7 q8
  go_enter Tryd.func38, Tryd.ntmps38
  go_wp2_with fail
  rw [← hW]
  clear hW
  go_region_held3 (fun u => F u ∧ u.cell? ⟨w.heap.size, 0, none⟩ = some (.int .i64 g) ∧ u.cell? ⟨w.heap.size, 1, none⟩ = some (.int .i64 n) ∧ u.cell? ⟨w.heap.size, 2, none⟩ = some (.int .i64 m) ∧ u.cell? ⟨w.heap.size, 3, none⟩ = some (.int .i64 x) ∧ u.cell? ⟨w.heap.size, 4, none⟩ = some (.string t)) (exact gS.out _ hFn)
    (first
      | (go_at_call 28; (with_reducible refine Calls.mono (Pg.out _) ?_); rintro e w1 ⟨rfl, hb⟩; have hFn := FB.out _ _ hFn hb)
      | (go_at_call 28; (with_reducible refine Calls.mono (Pn.out _) ?_); rintro e w1 ⟨rfl, hb⟩; have hFn := FB.out _ _ hFn hb)
      | (go_at_call 28; (with_reducible refine Calls.mono (Pm.out _) ?_); rintro e w1 ⟨rfl, hb⟩; have hFn := FB.out _ _ hFn hb)
      | (go_at_call 28; (with_reducible refine Calls.mono (Px.out _) ?_); rintro e w1 ⟨rfl, hb⟩; have hFn := FB.out _ _ hFn hb)
      | (go_at_call 29; (with_reducible refine Calls.mono (Pt.out _) ?_); rintro e w1 ⟨rfl, hb⟩; have hFn := FB.out _ _ hFn hb)
      | (go_at_call 27; refine Calls.mono (specSeal_any _ _ HQ.out) ?_; rintro e w1 ⟨rfl, hb⟩; have hFn := FB.out _ _ hFn hb))
  all_goals
    go_wp2_with fail
    go_ret
    exact ⟨ret_string (by rw [HTT.out]; exact HS.out.symm), gB.out _ hFn⟩
set_option maxRecDepth 100000 in
set_option maxHeartbeats 3200000 in
theorem specEnvBytes_any (g n m x : Int) (t : ByteArray) (w : World) (ht : t.size ≤ maxLen) :
    Calls Tryd.prog 12 #[.agg #[.int .i64 g, .int .i64 n, .int .i64 m, .int .i64 x, .string t]] w fun e w' => e = .returned (.string (envS g n m x t)) ∧ Below w.heap.size w w' := by
  have HT := Lib.hid ht
  clear ht
  cases hB : envB g n m x t
  · have HS := Lib.hid (envS_no hB)
    have HBB := Lib.hid hB
    have HB : Hid (Below w.heap.size w (w.alloc (.cells #[.int .i64 g, .int .i64 n, .int .i64 m, .int .i64 x, .string t] 24))) := Lib.hid ((Below.refl _ _).alloc (Nat.le_refl _) _)
    clear hB
    go_enter Tryd.func12, Tryd.ntmps12
    go_wp2_with fail
    refine (specEnvRight_any g n m x t _ HT.out).mono ?_
    rintro e w1 ⟨rfl, hb⟩
    have HB2 := Lib.hid (HB.out.trans (hb.mono HB.out.size))
    clear hb
    rw [HBB.out]
    go_wp2_with fail
    go_ret
    exact ⟨ret_string HS.out.symm, HB2.out⟩
  · have HBB := Lib.hid hB
    have HB : Hid (Below w.heap.size w (w.alloc (.cells #[.int .i64 g, .int .i64 n, .int .i64 m, .int .i64 x, .string t] 24))) := Lib.hid ((Below.refl _ _).alloc (Nat.le_refl _) _)
    clear hB
    go_enter Tryd.func12, Tryd.ntmps12
    go_wp2_with fail
    refine (specEnvRight_any g n m x t _ HT.out).mono ?_
    rintro e w1 ⟨rfl, hb⟩
    have hcs : ∀ i v, (w.alloc (.cells #[.int .i64 g, .int .i64 n, .int .i64 m, .int .i64 x, .string t] 24)).cell? ⟨w.heap.size, i, none⟩ = some v → w1.cell? ⟨w.heap.size, i, none⟩ = some v := fun i v h => (hb.cell (p := ⟨w.heap.size, i, none⟩) (by simp)).trans h
    have c0 := hcs 0 (.int .i64 g) (by simp)
    have c1 := hcs 1 (.int .i64 n) (by simp)
    have c2 := hcs 2 (.int .i64 m) (by simp)
    have c3 := hcs 3 (.int .i64 x) (by simp)
    have c4 := hcs 4 (.string t) (by simp)
    have HB2 := Lib.hid (HB.out.trans (hb.mono HB.out.size))
    clear hb hcs
    rw [HBB.out]
    go_wp2_with fail
    refine (l05Bytes_any g n m x t _ HBB.out).mono ?_
    rintro e w2 ⟨rfl, hb⟩
    have HB3 := Lib.hid (HB2.out.trans (hb.mono HB2.out.size))
    clear hb c0 c1 c2 c3 c4
    go_wp2_with fail
    go_ret
    exact ⟨rfl, HB3.out⟩
set_option maxRecDepth 100000 in
set_option maxHeartbeats 3200000 in
theorem implEnvBytes_any (g n m x : Int) (t : ByteArray) (w : World) (ht : t.size ≤ maxLen) :
    Calls Tryd.prog 6 #[.agg #[.int .i64 g, .int .i64 n, .int .i64 m, .int .i64 x, .string t]] w fun e w' => e = .returned (.string (envS g n m x t)) ∧ Below w.heap.size w w' := by
  have HT := Lib.hid ht
  clear ht
  cases hB : envB g n m x t
  · have HS := Lib.hid (envS_no hB)
    have HBB := Lib.hid hB
    have HB : Hid (Below w.heap.size w (w.alloc (.cells #[.int .i64 g, .int .i64 n, .int .i64 m, .int .i64 x, .string t] 24))) := Lib.hid ((Below.refl _ _).alloc (Nat.le_refl _) _)
    clear hB
    go_enter Tryd.func6, Tryd.ntmps6
    go_wp2_with fail
    refine (implEnvRight_any g n m x t _ HT.out).mono ?_
    rintro e w1 ⟨rfl, hb⟩
    have HB2 := Lib.hid (HB.out.trans (hb.mono HB.out.size))
    clear hb
    rw [HBB.out]
    go_wp2_with fail
    go_ret
    exact ⟨ret_string HS.out.symm, HB2.out⟩
  · have HBB := Lib.hid hB
    have HS := Lib.hid (envS_yes hB)
    obtain ⟨⟨hg1, hg2⟩, ⟨hn1, hn2⟩, ⟨hm1, hm2⟩, ⟨hx1, hx2⟩, ht1, ht2⟩ := envB_bounds hB
    have ig : Hid (i64P g) := Lib.hid (i64_of (by omega) (by omega))
    have iN : Hid (i64P n) := Lib.hid (i64_of (by omega) (by omega))
    have im : Hid (i64P m) := Lib.hid (i64_of (by omega) (by omega))
    have ix : Hid (i64P x) := Lib.hid (i64_of (by omega) (by omega))
    have HTL : Hid (t.size ≤ maxLen) := Lib.hid (by unfold maxLen; omega)
    have zg := Lib.hid (numS_size g).2
    have zn := Lib.hid (numS_size n).2
    have zm := Lib.hid (numS_size m).2
    have zx := Lib.hid (numS_size x).2
    have zt := Lib.hid (putTextS_size ht2)
    have HZT : Hid ((envT g n m x t).size ≤ maxLen) := Lib.hid (by have := envT_size (g := g) (n := n) (m := m) (x := x) ht2; unfold maxLen; omega)
    clear hg1 hg2 hn1 hn2 hm1 hm2 hx1 hx2 ht1 ht2
    clear hB
    obtain ⟨W, hW⟩ : ∃ W, W = w.alloc (.cells #[.int .i64 g, .int .i64 n, .int .i64 m, .int .i64 x, .string t] 24) := ⟨_, rfl⟩
    have c0 : W.cell? ⟨w.heap.size, 0, none⟩ = some (.int .i64 g) := by rw [hW]; simp
    have c1 : W.cell? ⟨w.heap.size, 1, none⟩ = some (.int .i64 n) := by rw [hW]; simp
    have c2 : W.cell? ⟨w.heap.size, 2, none⟩ = some (.int .i64 m) := by rw [hW]; simp
    have c3 : W.cell? ⟨w.heap.size, 3, none⟩ = some (.int .i64 x) := by rw [hW]; simp
    have c4 : W.cell? ⟨w.heap.size, 4, none⟩ = some (.string t) := by rw [hW]; simp
    have cz : w.heap.size < W.heap.size := by rw [hW]; simp
    have cb : Below w.heap.size w W := by rw [hW]; exact (Below.refl _ _).alloc (Nat.le_refl _) _
    obtain ⟨F, hF⟩ : ∃ F : World → Prop, F = fun u => Below w.heap.size w u ∧ w.heap.size < u.heap.size ∧ u.cell? ⟨w.heap.size, 0, none⟩ = some (.int .i64 g) ∧ u.cell? ⟨w.heap.size, 1, none⟩ = some (.int .i64 n) ∧ u.cell? ⟨w.heap.size, 2, none⟩ = some (.int .i64 m) ∧ u.cell? ⟨w.heap.size, 3, none⟩ = some (.int .i64 x) ∧ u.cell? ⟨w.heap.size, 4, none⟩ = some (.string t) := ⟨_, rfl⟩
    have F0 : F W := by rw [hF]; exact ⟨cb, cz, c0, c1, c2, c3, c4⟩
    have FB : Hid (∀ u v, F u → Below u.heap.size u v → F v) := Lib.hid (by
      rw [hF]
      rintro u v ⟨a, z, b0, b1, b2, b3, b4⟩ hb
      exact ⟨a.trans (hb.mono a.size), Nat.lt_of_lt_of_le z hb.size, (hb.cell (p := ⟨w.heap.size, 0, none⟩) z).trans b0, (hb.cell (p := ⟨w.heap.size, 1, none⟩) z).trans b1, (hb.cell (p := ⟨w.heap.size, 2, none⟩) z).trans b2, (hb.cell (p := ⟨w.heap.size, 3, none⟩) z).trans b3, (hb.cell (p := ⟨w.heap.size, 4, none⟩) z).trans b4⟩)
    have gB : Hid (∀ u, F u → Below w.heap.size w u) := Lib.hid (by rw [hF]; exact fun u h => h.1)
    have gS : Hid (∀ u, F u → (F u ∧ u.cell? ⟨w.heap.size, 0, none⟩ = some (.int .i64 g) ∧ u.cell? ⟨w.heap.size, 1, none⟩ = some (.int .i64 n) ∧ u.cell? ⟨w.heap.size, 2, none⟩ = some (.int .i64 m) ∧ u.cell? ⟨w.heap.size, 3, none⟩ = some (.int .i64 x) ∧ u.cell? ⟨w.heap.size, 4, none⟩ = some (.string t))) := Lib.hid (by rw [hF]; exact fun u h => ⟨h, h.2.2⟩)
    clear hF cb cz c0 c1 c2 c3 c4
    have Pg : Hid (∀ u, Calls Tryd.prog 22 #[.int .i64 g] u fun e w' => e = .returned (.string (numS g)) ∧ Below u.heap.size u w') := Lib.hid (fun u => implPutNum_any g u ig.out)
    have Pn : Hid (∀ u, Calls Tryd.prog 22 #[.int .i64 n] u fun e w' => e = .returned (.string (numS n)) ∧ Below u.heap.size u w') := Lib.hid (fun u => implPutNum_any n u iN.out)
    have Pm : Hid (∀ u, Calls Tryd.prog 22 #[.int .i64 m] u fun e w' => e = .returned (.string (numS m)) ∧ Below u.heap.size u w') := Lib.hid (fun u => implPutNum_any m u im.out)
    have Px : Hid (∀ u, Calls Tryd.prog 22 #[.int .i64 x] u fun e w' => e = .returned (.string (numS x)) ∧ Below u.heap.size u w') := Lib.hid (fun u => implPutNum_any x u ix.out)
    have Pt : Hid (∀ u, Calls Tryd.prog 23 #[.string t] u fun e w' => e = .returned (.string (putTextS t)) ∧ Below u.heap.size u w') := Lib.hid (fun u => implPutText_any t u HTL.out)
    have HTT : Hid (numS g ++ numS n ++ numS m ++ numS x ++ putTextS t = envT g n m x t) := Lib.hid rfl
    generalize numS g = bg at *
    generalize numS n = bn at *
    generalize numS m = bm at *
    generalize numS x = bx at *
    generalize putTextS t = bt at *
    have HJ : Hid (∀ (u : World), Calls Tryd.prog 21 #[.slice (some ⟨u.heap.size, 0, none⟩) 5 5] (u.alloc (.cells #[.string bg, .string bn, .string bm, .string bx, .string bt] 9)) fun r w' => r = .returned (.string (bg ++ bn ++ bm ++ bx ++ bt)) ∧ Below u.heap.size u w') := Lib.hid (fun u => joined_five bg bn bm bx bt _ u (Nat.le_trans zg.out (by omega)) (Nat.le_trans zn.out (by omega)) (Nat.le_trans zm.out (by omega)) (Nat.le_trans zx.out (by omega)) (Nat.le_trans zt.out (by omega)))
    rw [← HTT.out] at HZT
    clear zg zn zm zx zt
    go_enter Tryd.func6, Tryd.ntmps6
    go_wp2_with fail
    rw [← hW]
    clear hW
    refine (implEnvRight_any g n m x t _ HT.out).mono ?_
    rintro e w1 ⟨rfl, hb⟩
    have hFn := FB.out _ _ (FB.out _ _ F0 hb) (Below.refl _ _).drew
    clear hb F0
    rw [HBB.out]
    go_wp2_with fail
    go_region_held3 (fun u => F u ∧ u.cell? ⟨w.heap.size, 0, none⟩ = some (.int .i64 g) ∧ u.cell? ⟨w.heap.size, 1, none⟩ = some (.int .i64 n) ∧ u.cell? ⟨w.heap.size, 2, none⟩ = some (.int .i64 m) ∧ u.cell? ⟨w.heap.size, 3, none⟩ = some (.int .i64 x) ∧ u.cell? ⟨w.heap.size, 4, none⟩ = some (.string t)) (first | (exact gS.out _ hFn) | (exact gS.out _ (FB.out _ _ hFn ((Below.refl _ _).alloc (Nat.le_refl _) _))))
      (first
        | (go_at_call 22; (with_reducible refine Calls.mono (Pg.out _) ?_); rintro e w1 ⟨rfl, hb⟩; have hFn := FB.out _ _ hFn hb)
        | (go_at_call 22; (with_reducible refine Calls.mono (Pn.out _) ?_); rintro e w1 ⟨rfl, hb⟩; have hFn := FB.out _ _ hFn hb)
        | (go_at_call 22; (with_reducible refine Calls.mono (Pm.out _) ?_); rintro e w1 ⟨rfl, hb⟩; have hFn := FB.out _ _ hFn hb)
        | (go_at_call 22; (with_reducible refine Calls.mono (Px.out _) ?_); rintro e w1 ⟨rfl, hb⟩; have hFn := FB.out _ _ hFn hb)
        | (go_at_call 23; (with_reducible refine Calls.mono (Pt.out _) ?_); rintro e w1 ⟨rfl, hb⟩; have hFn := FB.out _ _ hFn hb)
        | (go_at_call 21; refine Calls.mono (HJ.out _) ?_; rintro e w1 ⟨rfl, hb⟩; have hFn := FB.out _ _ hFn hb)
        | (go_at_call 20; refine Calls.mono (implSeal_any _ _ HZT.out) ?_; rintro e w1 ⟨rfl, hb⟩; have hFn := FB.out _ _ hFn hb))
    all_goals
      go_wp2_with fail
      go_ret
      exact ⟨ret_string (by rw [HTT.out]; exact HS.out.symm), gB.out _ hFn⟩
end Go.Proofs.YtdnbkjiijpeiiaaDoor
