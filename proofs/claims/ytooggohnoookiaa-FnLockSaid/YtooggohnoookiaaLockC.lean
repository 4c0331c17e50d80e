/- What Lock answers, the model's and the program's; the draws of both; what is locked again. -/
import Derived.Test.YtooggohnoookiaaLockB
namespace Go.Proofs.Ytooggohnoookiaa
open Go.RowKit Go.PlainAid G
set_option linter.unusedVariables false
theorem specLock_any (key : ByteArray) (n : Int) (t : ByteArray) (w : World) (hk : key.size ≤ maxLen) (ht : t.size ≤ maxLen) :
    Calls Try.prog 9 #[.string key, .int .i64 n, .string t] w fun e w' => e = .returned (.string (lockS key n t)) ∧ Below w.heap.size w w' := by
  unfold maxLen at ht
  have HT : Hid (t.size ≤ 9223372036854775807) := Lib.hid ht
  cases hs : secR key
  · have HF := Lib.hid (lockS_no (key := key) (n := n) (t := t) (fun h => by rw [secR_yes h.1.1 h.1.2] at hs; cases hs)).symm
    go_enter Try.func9, Try.ntmps9
    go_wp2_with fail
    refine (l04SecretOk_any key _ hk).mono ?_
    rintro e w1 ⟨rfl, rfl⟩
    rw [hs]
    go_wp2_with fail
    go_ret
    exact ⟨ret_string HF.out, Below.refl _ _⟩
  · obtain ⟨h1, h2⟩ := secR_iff.1 hs
    by_cases hn : 0 ≤ n ∧ n ≤ 1000000
    · have hd : decide (0 ≤ n ∧ n ≤ 1000000) = true := decide_eq_true hn
      by_cases h40 : t.size ≤ 40
      · have HF := Lib.hid (lockS_yes (key := key) (n := n) (t := t) ⟨⟨h1, h2⟩, hn, h40⟩).symm
        obtain ⟨m, rfl⟩ := Int.eq_ofNat_of_zero_le hn.1
        go_enter Try.func9, Try.ntmps9
        go_wp2_with fail
        refine (l04SecretOk_any key _ hk).mono ?_
        rintro e w1 ⟨rfl, rfl⟩
        rw [hs]
        go_wp2_with fail
        refine (l02IsOk_any _ _ _ _).mono ?_
        rintro e w1 ⟨rfl, rfl⟩
        rw [hd]
        go_wp2_with fail
        refine (l06Lock_any key m t _ h1 h2 (by omega) (by omega)).mono ?_
        rintro e w2 ⟨rfl, hb⟩
        go_wp2_with fail
        go_ret
        exact ⟨ret_string HF.out, hb⟩
      · have HF := Lib.hid (lockS_no (key := key) (n := n) (t := t) (fun h => h40 h.2.2)).symm
        go_enter Try.func9, Try.ntmps9
        go_wp2_with fail
        refine (l04SecretOk_any key _ hk).mono ?_
        rintro e w1 ⟨rfl, rfl⟩
        rw [hs]
        go_wp2_with fail
        refine (l02IsOk_any _ _ _ _).mono ?_
        rintro e w1 ⟨rfl, rfl⟩
        rw [hd]
        go_wp2_with fail
        go_ret
        exact ⟨ret_string HF.out, Below.refl _ _⟩
    · have hd : decide (0 ≤ n ∧ n ≤ 1000000) = false := decide_eq_false hn
      have HF := Lib.hid (lockS_no (key := key) (n := n) (t := t) (fun h => hn h.2.1)).symm
      go_enter Try.func9, Try.ntmps9
      go_wp2_with fail
      refine (l04SecretOk_any key _ hk).mono ?_
      rintro e w1 ⟨rfl, rfl⟩
      rw [hs]
      go_wp2_with fail
      refine (l02IsOk_any _ _ _ _).mono ?_
      rintro e w1 ⟨rfl, rfl⟩
      rw [hd]
      go_wp2_with fail
      go_ret
      exact ⟨ret_string HF.out, Below.refl _ _⟩
theorem implLock_any (key : ByteArray) (n : Int) (t : ByteArray) (w : World) (hk : key.size ≤ maxLen) (ht : t.size ≤ maxLen) :
    Calls Try.prog 7 #[.string key, .int .i64 n, .string t] w fun e w' => e = .returned (.string (lockS key n t)) ∧ Below w.heap.size w w' := by
  unfold maxLen at ht
  cases hs : secR key
  · have HF := Lib.hid (lockS_no (key := key) (n := n) (t := t) (fun h => by rw [secR_yes h.1.1 h.1.2] at hs; cases hs)).symm
    go_enter Try.func7, Try.ntmps7
    go_wp2_with fail
    refine (secretOk_any key _ hk).mono ?_
    rintro e w1 ⟨rfl, rfl⟩
    rw [hs]
    go_wp2_with fail
    go_ret
    exact ⟨ret_string HF.out, Below.refl _ _⟩
  · obtain ⟨h1, h2⟩ := secR_iff.1 hs
    by_cases hn : 0 ≤ n ∧ n ≤ 1000000
    · have hd : decide (0 ≤ n ∧ n ≤ 1000000) = true := decide_eq_true hn
      by_cases h40 : t.size ≤ 40
      · have HF := Lib.hid (lockS_yes (key := key) (n := n) (t := t) ⟨⟨h1, h2⟩, hn, h40⟩).symm
        obtain ⟨m, rfl⟩ := Int.eq_ofNat_of_zero_le hn.1
        go_enter Try.func7, Try.ntmps7
        go_wp2_with fail
        refine (secretOk_any key _ hk).mono ?_
        rintro e w1 ⟨rfl, rfl⟩
        rw [hs]
        go_wp2_with fail
        refine (isTime_any _ _).mono ?_
        rintro e w1 ⟨rfl, rfl⟩
        rw [hd]
        go_wp2_with fail
        refine (turned_any key m t _ h1 h2 (by omega) (by omega)).mono ?_
        rintro e w2 ⟨rfl, hb⟩
        go_wp2_with fail
        go_ret
        exact ⟨ret_string HF.out, hb⟩
      · have HF := Lib.hid (lockS_no (key := key) (n := n) (t := t) (fun h => h40 h.2.2)).symm
        go_enter Try.func7, Try.ntmps7
        go_wp2_with fail
        refine (secretOk_any key _ hk).mono ?_
        rintro e w1 ⟨rfl, rfl⟩
        rw [hs]
        go_wp2_with fail
        refine (isTime_any _ _).mono ?_
        rintro e w1 ⟨rfl, rfl⟩
        rw [hd]
        go_wp2_with fail
        go_ret
        exact ⟨ret_string HF.out, Below.refl _ _⟩
    · have hd : decide (0 ≤ n ∧ n ≤ 1000000) = false := decide_eq_false hn
      have HF := Lib.hid (lockS_no (key := key) (n := n) (t := t) (fun h => hn h.2.1)).symm
      go_enter Try.func7, Try.ntmps7
      go_wp2_with fail
      refine (secretOk_any key _ hk).mono ?_
      rintro e w1 ⟨rfl, rfl⟩
      rw [hs]
      go_wp2_with fail
      refine (isTime_any _ _).mono ?_
      rintro e w1 ⟨rfl, rfl⟩
      rw [hd]
      go_wp2_with fail
      go_ret
      exact ⟨ret_string HF.out, Below.refl _ _⟩
/-- What is drawn for Lock. -/
def SomeLock (w : World) (e : Ending) (w' : World) : Prop := ∃ (k t : ByteArray) (n : Int), e = .returned (.tuple #[.string k, .int .i64 n, .string t]) ∧ k.size ≤ 30000 ∧ t.size ≤ 30000 ∧ (Lit.int .i64 n).wf = true ∧ Below w.heap.size w w'
set_option maxRecDepth 100000 in
theorem drawLock_any (ao : Option Addr) (len cap : Nat) (w : World) (hC : CodeAt w ao len) (hl : len ≤ 1048576) :
    Calls Try.prog 6 #[.slice ao len cap] w (SomeLock w) := by
  go_enter Try.func6, Try.ntmps6
  go_wp2_with fail
  refine (source_any ao len cap w hC hl).mono ?_
  rintro e w1 ⟨p, rfl, hp, hS, hb1⟩
  go_wp2_with fail
  refine (n_any p 9 w1 hS (by omega)).mono ?_
  rintro e w2 ⟨r, rfl, r0, r1, hS2, hg2, hz2⟩
  have hb2 := below_drawn hb1 (Nat.le_refl _) hp ⟨hS2, hg2⟩
  have hr : r ≤ 9 := by omega
  clear hb1 hg2 hz2 r1 hS
  go_wp2_with fail
  refine (n_any p 17 w2 hS2 (by omega)).mono ?_
  rintro e w3 ⟨q, rfl, q0, q1, hS3, hg3, hz3⟩
  have hb3 := below_drawn hb2 (Nat.le_refl _) hp ⟨hS3, hg3⟩
  have hq : q ≤ 17 := by omega
  clear hb2 hg3 hz3 q1 hS2
  go_wp2_with fail
  refine (bytes_any p q w3 hS3 (by omega)).mono ?_
  rintro e w4 ⟨k, rfl, hk, hD4⟩
  have hb4 := below_drawn hb3 (Nat.le_refl _) hp hD4
  have hS4 := hD4.src
  have hk' : k.size ≤ 30000 := by omega
  have HK := Lib.hid hk'
  clear hb3 hk hk' hD4 hS3
  go_wp2_with fail
  refine (one_any p 12 w4 hS4 (by omega)).mono ?_
  rintro e w5 ⟨b, rfl, hD5, hz5⟩
  have hb5 := below_drawn hb4 (Nat.le_refl _) hp hD5
  have hS5 := hD5.src
  clear hb4 hD5 hz5 hS4
  cases b
  · have HR : Hid ((Lit.int .i64 r).wf = true) := Lib.hid (WalkArith.wf_i64 (by omega))
    go_wp2_with fail
    refine (n_any p 42 w5 hS5 (by omega)).mono ?_
    rintro e w6 ⟨m, rfl, m0, m1, hS6, hg6, hz6⟩
    have hb6 := below_drawn hb5 (Nat.le_refl _) hp ⟨hS6, hg6⟩
    have hm : m ≤ 42 := by omega
    clear hb5 hg6 hz6 m1 hS5
    go_wp2_with fail
    refine (bytes_any p m w6 hS6 (by omega)).mono ?_
    rintro e w7 ⟨t, rfl, ht, hD7⟩
    have hb7 := below_drawn hb6 (Nat.le_refl _) hp hD7
    have ht' : t.size ≤ 30000 := by omega
    have HT := Lib.hid ht'
    have HB := Lib.hid hb7
    clear hb6 hb7 ht ht' hD7 hS6
    go_wp2_with fail
    go_ret3
    exact ⟨_, _, _, rfl, HK.out, HT.out, HR.out, HB.out⟩
  · go_wp2_with fail
    refine (edge_any p w5 hS5).mono ?_
    rintro e w5b ⟨r', rfl, hr', hD5⟩
    have hb5b := below_drawn hb5 (Nat.le_refl _) hp hD5
    have hS5b := hD5.src
    have HR := Lib.hid hr'
    clear hb5 hD5 hr' hS5 hr r0
    go_wp2_with fail
    refine (bytes_any p 17 w5b hS5b (by omega)).mono ?_
    rintro e w5c ⟨k2, rfl, hk2, hD5c⟩
    have hb5c := below_drawn hb5b (Nat.le_refl _) hp hD5c
    have hS5c := hD5c.src
    have hk2' : k2.size ≤ 30000 := by omega
    have HK2 := Lib.hid hk2'
    clear hb5b hD5c hk2 hk2' hS5b
    go_wp2_with fail
    refine (n_any p 42 w5c hS5c (by omega)).mono ?_
    rintro e w6 ⟨m, rfl, m0, m1, hS6, hg6, hz6⟩
    have hb6 := below_drawn hb5c (Nat.le_refl _) hp ⟨hS6, hg6⟩
    have hm : m ≤ 42 := by omega
    clear hb5c hg6 hz6 m1 hS5c
    go_wp2_with fail
    refine (bytes_any p m w6 hS6 (by omega)).mono ?_
    rintro e w7 ⟨t, rfl, ht, hD7⟩
    have hb7 := below_drawn hb6 (Nat.le_refl _) hp hD7
    have ht' : t.size ≤ 30000 := by omega
    have HT := Lib.hid ht'
    have HB := Lib.hid hb7
    clear hb6 hb7 ht ht' hD7 hS6
    go_wp2_with fail
    go_ret3
    exact ⟨_, _, _, rfl, HK2.out, HT.out, HR.out, HB.out⟩
theorem drawCheckOf_any (ao : Option Addr) (len cap : Nat) (w : World) (hC : CodeAt w ao len) (hl : len ≤ 1048576) :
    Calls Try.prog 8 #[.slice ao len cap] w (SomeText 30000 w) := by
  go_enter Try.func8, Try.ntmps8
  go_wp2_with fail
  refine (source_any ao len cap w hC hl).mono ?_
  rintro e w1 ⟨p, rfl, hp, hS, hb1⟩
  go_wp2_with fail
  refine (n_any p 18 w1 hS (by omega)).mono ?_
  rintro e w2 ⟨r, rfl, r0, r1, hS2, hg2, hz2⟩
  have hb2 := below_drawn hb1 (Nat.le_refl _) hp ⟨hS2, hg2⟩
  have hr : r ≤ 18 := by omega
  clear hb1 hg2 hz2 r1 hS
  go_wp2_with fail
  refine (bytes_any p r w2 hS2 (by omega)).mono ?_
  rintro e w3 ⟨x, rfl, hx, hD3⟩
  have hb3 := below_drawn hb2 (Nat.le_refl _) hp hD3
  have hx' : x.size ≤ 30000 := by omega
  have HX := Lib.hid hx'
  have HB := Lib.hid hb3
  clear hb2 hx hx' hD3 hb3
  go_wp2_with fail
  go_ret
  exact ⟨_, rfl, HX.out, HB.out⟩
/-- Locked again it is what it was. -/
theorem xor8_back {a b : Int} (ha : 0 ≤ a ∧ a ≤ 255) (hb : 0 ≤ b ∧ b ≤ 255) : bits .xor .u8 (bits .xor .u8 a b) b = a := by
  obtain ⟨a, rfl⟩ := Int.eq_ofNat_of_zero_le ha.1
  obtain ⟨b, rfl⟩ := Int.eq_ofNat_of_zero_le hb.1
  have hx : ∀ a b : Nat, a < 256 → b < 256 → bits .xor .u8 (a : Int) (b : Int) = ((a ^^^ b : Nat) : Int) := fun a b ha hb => by
    have h2 : a ^^^ b < 2 ^ 8 := Nat.xor_lt_two_pow (by omega) (by omega)
    have ha' : a % 2 ^ IntKind.u8.bits = a := Nat.mod_eq_of_lt (Nat.lt_of_lt_of_le ha (by decide))
    have hb' : b % 2 ^ IntKind.u8.bits = b := Nat.mod_eq_of_lt (Nat.lt_of_lt_of_le hb (by decide))
    simp only [bits, BitVec.ofInt_natCast, BitVec.toNat_xor, BitVec.toNat_ofNat, ha', hb']
    rw [IntKind.wrap_u8]
    exact Int.emod_eq_of_lt (Int.natCast_nonneg _) (by omega)
  rw [hx a b (by omega) (by omega), hx _ b (Nat.xor_lt_two_pow (n := 8) (by omega) (by omega)) (by omega), Nat.xor_assoc, Nat.xor_self, Nat.xor_zero]
theorem bt_lkS {key t : ByteArray} {n i : Nat} (hi : i < t.size) : bt (lkS key n t) i = lkB key n t i := by
  unfold lkS lkL
  rw [bt_strOfNums (fun z hz => by obtain ⟨k, hk, rfl⟩ := List.mem_map.1 hz; exact lkB_range key n t k) (by simpa using hi)]
  simp [List.getD, hi]
theorem bts_ext {s t : ByteArray} (hs : s.size = t.size) (h : ∀ i, i < s.size → bt s i = bt t i) : s = t := by
  apply ByteArray.ext
  apply Array.ext
  · exact hs
  · intro i h1 h2
    have h3 := h i h1
    unfold bt at h3
    rw [dif_pos (show i < s.size from h1), dif_pos (show i < t.size from h2)] at h3
    have h4 : (s[i]'h1).toNat = (t[i]'h2).toNat := by omega
    exact UInt8.toNat_inj.1 h4
theorem lkS_back (key t : ByteArray) (n : Nat) : lkS key n (lkS key n t) = t := by
  refine bts_ext (by rw [lkS_size, lkS_size]) (fun i hi => ?_)
  rw [lkS_size] at hi
  rw [bt_lkS hi]
  rw [lkS_size] at hi
  unfold lkB
  rw [bt_lkS hi]
  exact xor8_back ⟨bt_nonneg _ _, bt_le _ _⟩ ⟨bt_nonneg _ _, bt_le _ _⟩
theorem lock_back {key t : ByteArray} {n : Int} (h : lkOk key n t) : (lockS key n t).size = t.size ∧ lockS key n (lockS key n t) = t := by
  have h2 : lkOk key n (lockS key n t) := by
    rw [lockS_yes h]
    exact ⟨h.1, h.2.1, by rw [lkS_size]; exact h.2.2⟩
  rw [lockS_yes h2, lockS_yes h, lkS_back]
  exact ⟨lkS_size _ _ _, rfl⟩
end Go.Proofs.Ytooggohnoookiaa
