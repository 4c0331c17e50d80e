/- Texts put together. -/
import Derived.Test.YtnoefpkhbllmiaaGreatDoorSplA
import Derived.Test.YtnoefpkhbllmiaaGreatDoorSSpA
import Derived.Test.YtnoefpkhbllmiaaGreatDoorFnPutText
import Derived.Deep.RegionHeld3
import Derived.Test.YtnoefpkhbllmiaaGreatDoorHShA
import Derived.RegionTactic
import Derived.BigRegion
import Derived.Test.YtnoefpkhbllmiaaGreatDoorFnUnseal2
import Derived.WalkLawsBesides
import Derived.Recover
import Derived.Defers
namespace Go.Proofs.YtnoefpkhbllmiaaGreatDoor
open Go.RowKit Go.PlainAid G MGF IRow MNum MJoin
set_option linter.unusedVariables false
def numsB (g n m : Int) : Bool := decide (1 ≤ g ∧ g ≤ 999) && manyB n m
/-- Is it a right envelope? -/
def envB (g n m x : Int) (t : ByteArray) : Bool := numsB g n m && (decide (1 ≤ x ∧ x ≤ m) && secB t)
/-- What its bytes hold. -/
def envT (g n m x : Int) (t : ByteArray) : ByteArray := numS g ++ numS n ++ numS m ++ numS x ++ putTextS t
/-- Its bytes. -/
def envS (g n m x : Int) (t : ByteArray) : ByteArray := if envB g n m x t = true then sealS (envT g n m x t) else ⟨#[]⟩
theorem envS_yes {g n m x : Int} {t : ByteArray} (h : envB g n m x t = true) : envS g n m x t = sealS (envT g n m x t) := by unfold envS; rw [if_pos h]
theorem envS_no {g n m x : Int} {t : ByteArray} (h : envB g n m x t = false) : envS g n m x t = ⟨#[]⟩ := by unfold envS; rw [if_neg (by rw [h]; decide)]
theorem envB_bounds {g n m x : Int} {t : ByteArray} (h : envB g n m x t = true) : (1 ≤ g ∧ g ≤ 999) ∧ (1 ≤ n ∧ n ≤ 10) ∧ (n ≤ m ∧ m ≤ 20) ∧ (1 ≤ x ∧ x ≤ m) ∧ (1 ≤ t.size ∧ t.size ≤ 16) := by
  unfold envB numsB manyB needB secB at h
  simp only [Bool.and_eq_true, decide_eq_true_eq] at h
  exact ⟨h.1.1, h.1.2.1, h.1.2.2, h.2.1, h.2.2⟩
theorem envB_of {g n m x : Int} {t : ByteArray} (h1 : 1 ≤ g ∧ g ≤ 999) (h2 : 1 ≤ n ∧ n ≤ 10) (h3 : n ≤ m ∧ m ≤ 20) (h4 : 1 ≤ x ∧ x ≤ m) (h5 : 1 ≤ t.size ∧ t.size ≤ 16) : envB g n m x t = true := by
  unfold envB numsB manyB needB secB
  simp only [Bool.and_eq_true, decide_eq_true_eq]
  exact ⟨⟨h1, h2, h3⟩, h4, h5⟩
theorem catS_five (a b c d e : ByteArray) : catS [a, b, c, d, e] = a ++ b ++ c ++ d ++ e := by
  apply ByteArray.ext
  apply Array.toList_inj.1
  simp [catS, catL]
/-- Five texts, in a list that the call lays. -/
theorem joined_five (a b c d e : ByteArray) (T : TypeId) (w : World) (ha : a.size ≤ 1000000) (hb : b.size ≤ 1000000) (hc : c.size ≤ 1000000) (hd : d.size ≤ 1000000) (he : e.size ≤ 1000000) :
    Calls Tryz.prog 62 #[.slice (some ⟨w.heap.size, 0, none⟩) 5 5] (w.alloc (.cells #[.string a, .string b, .string c, .string d, .string e] T)) fun r w' => r = .returned (.string (a ++ b ++ c ++ d ++ e)) ∧ Below w.heap.size w w' := by
  refine (joined_any w.heap.size 0 5 [a, b, c, d, e] (w.alloc (.cells #[.string a, .string b, .string c, .string d, .string e] T)) (by simp) ?_ (by simp) (by simp [sumL]; omega)).mono ?_
  · intro k hk
    match k, hk with
    | 0, _ => simp
    | 1, _ => simp
    | 2, _ => simp
    | 3, _ => simp
    | 4, _ => simp
    | k + 5, hk => simp at hk; omega
  · rintro r w' ⟨rfl, hb⟩
    exact ⟨by rw [catS_five], ((Below.refl _ _).alloc (Nat.le_refl _) _).trans (hb.mono (by simp))⟩
theorem l05Nums_any (g n m : Int) (w : World) :
    Calls Tryz.prog 76 #[.int .i64 g, .int .i64 n, .int .i64 m] w fun e w' => e = .returned (.bool (numsB g n m)) ∧ w = w' := by
  cases hg : decide (1 ≤ g ∧ g ≤ 999)
  · skip
    have HF : Hid (false = numsB g n m) := Lib.hid (by unfold numsB manyB needB; rw [hg, Bool.false_and])
    go_enter Tryz.func76, Tryz.ntmps76
    go_wp2_with (go_at_call 36; refine (l02Is_any _ _ _ _).mono ?_; rintro e w1 ⟨rfl, rfl⟩; first | rw [hg] | rw [hn] | rw [hm])
    go_ret
    exact ⟨ret_bool HF.out, rfl⟩
  · cases hn : decide (1 ≤ n ∧ n ≤ 10)
    · skip
      have HF : Hid (false = numsB g n m) := Lib.hid (by unfold numsB manyB needB; rw [hn, Bool.false_and, Bool.and_false])
      go_enter Tryz.func76, Tryz.ntmps76
      go_wp2_with (go_at_call 36; refine (l02Is_any _ _ _ _).mono ?_; rintro e w1 ⟨rfl, rfl⟩; first | rw [hg] | rw [hn] | rw [hm])
      go_ret
      exact ⟨ret_bool HF.out, rfl⟩
    · cases hm : decide (n ≤ m ∧ m ≤ 20)
      · skip
        have HF : Hid (false = numsB g n m) := Lib.hid (by unfold numsB manyB needB; rw [hm, Bool.and_false, Bool.and_false])
        go_enter Tryz.func76, Tryz.ntmps76
        go_wp2_with (go_at_call 36; refine (l02Is_any _ _ _ _).mono ?_; rintro e w1 ⟨rfl, rfl⟩; first | rw [hg] | rw [hn] | rw [hm])
        go_ret
        exact ⟨ret_bool HF.out, rfl⟩
      · skip
        have HF : Hid (true = numsB g n m) := Lib.hid (by unfold numsB manyB needB; rw [hg, hn, hm]; rfl)
        go_enter Tryz.func76, Tryz.ntmps76
        go_wp2_with (go_at_call 36; refine (l02Is_any _ _ _ _).mono ?_; rintro e w1 ⟨rfl, rfl⟩; first | rw [hg] | rw [hn] | rw [hm])
        go_ret
        exact ⟨ret_bool HF.out, rfl⟩
theorem i64_of {n : Int} (h0 : 0 ≤ n) (h1 : n ≤ 1000) : i64P n := by unfold i64P; omega
theorem envT_size {g n m x : Int} {t : ByteArray} (h : t.size ≤ 16) : (envT g n m x t).size ≤ 66 := by
  unfold envT
  rw [putTextS_short (by omega)]
  have h1 := (numS_size g).2; have h2 := (numS_size n).2; have h3 := (numS_size m).2; have h4 := (numS_size x).2; have h5 := (numS_size t.size).2
  simp only [ByteArray.size_append]
  omega
theorem putTextS_size {t : ByteArray} (h : t.size ≤ 16) : (putTextS t).size ≤ 26 := by
  rw [putTextS_short (by omega), ByteArray.size_append]
  have h5 := (numS_size t.size).2
  omega
end Go.Proofs.YtnoefpkhbllmiaaGreatDoor
namespace Go.Proofs.YtnoefpkhbllmiaaGreatDoor
open Go.RowKit Go.PlainAid G MGF IRow
set_option linter.unusedVariables false
/-- What is left of a size; or too much. -/
def LeftS (n : Nat) (l : List (Int × ByteArray)) (w : World) (e : Ending) (w' : World) : Prop :=
  ∃ r : Int, e = .returned (.int .i64 r) ∧ (0 ≤ r → n ≤ 1048576 ∧ ∀ t, t < n → (l.getD t shD).2.size ≤ 1048576) ∧ Below w.heap.size w w'
theorem shares_len {w : World} {base n cap : Nat} {a : Option Addr} {e : TypeId} {l : List (Int × ByteArray)} (h : w.ownsRow base e shE.k (.slice a n cap) n (shE.flat l)) : l.length = n := by
  have := h.1; rw [shE.flat_length] at this; exact Nat.eq_of_mul_eq_mul_right (show 0 < shE.k by decide) this
end Go.Proofs.YtnoefpkhbllmiaaGreatDoor
namespace Go.Proofs.YtnoefpkhbllmiaaGreatDoor
open Go.RowKit Go.PlainAid G MGF IRow MNum MJoin
set_option linter.unusedVariables false
/-- An envelope. -/
structure Ev where
  g : Int
  n : Int
  m : Int
  x : Int
  t : ByteArray
def evD : Ev := ⟨0, 0, 0, 0, ByteArray.empty⟩
/-- An envelope in memory. -/
def evE : Enc Ev := ⟨5, fun e => [.int .i64 e.g, .int .i64 e.n, .int .i64 e.m, .int .i64 e.x, .string e.t], fun _ => rfl, by intro x v hv; simp at hv; rcases hv with rfl | rfl | rfl | rfl | rfl <;> rfl⟩
/-- A row of envelopes that can be read. -/
abbrev ER (w : World) (a : Option Addr) (n cap : Nat) (l : List Ev) : Prop := SR evE evD w a n cap l
theorem ER.at {w : World} {a : Option Addr} {n cap : Nat} {l : List Ev} (h : ER w a n cap l) {i : Nat} (hi : i < n) : ∃ g o, a = some ⟨g, o, none⟩ ∧ g < w.heap.size ∧ w.cell? ⟨g, o + i * 5, none⟩ = some (.int .i64 (l.getD i evD).g) ∧ w.cell? ⟨g, o + i * 5 + 1, none⟩ = some (.int .i64 (l.getD i evD).n) ∧ w.cell? ⟨g, o + i * 5 + 2, none⟩ = some (.int .i64 (l.getD i evD).m) ∧ w.cell? ⟨g, o + i * 5 + 3, none⟩ = some (.int .i64 (l.getD i evD).x) ∧ w.cell? ⟨g, o + i * 5 + 4, none⟩ = some (.string (l.getD i evD).t) := by
  obtain ⟨g, o, ha, hg, hc⟩ := h.cells (by omega)
  exact ⟨g, o, ha, hg, hc i hi 0 _ rfl, hc i hi 1 _ rfl, hc i hi 2 _ rfl, hc i hi 3 _ rfl, hc i hi 4 _ rfl⟩
theorem ER.own {w : World} {base n cap : Nat} {a : Option Addr} {e : TypeId} {l : List Ev} (h : w.ownsRow base e evE.k (.slice a n cap) n (evE.flat l)) : ER w a n cap l := SR.own (by decide) h
theorem envs_len {w : World} {base n cap : Nat} {a : Option Addr} {e : TypeId} {l : List Ev} (h : w.ownsRow base e evE.k (.slice a n cap) n (evE.flat l)) : l.length = n := by
  have := h.1; rw [evE.flat_length] at this; exact Nat.eq_of_mul_eq_mul_right (show 0 < evE.k by decide) this
def evOf (g n m : Int) (p : Int × ByteArray) : Ev := ⟨g, n, m, p.1, p.2⟩
def envsOk (g n m : Int) (l : List (Int × ByteArray)) : Bool := decide (l.length ≤ 20) && l.all (fun p => envB g n m p.1 p.2)
/-- The envelopes of some parts: none, if one is not right. -/
def envsL (g n m : Int) (l : List (Int × ByteArray)) : List Ev := if envsOk g n m l = true then l.map (evOf g n m) else []
theorem envsL_long {g n m : Int} {l : List (Int × ByteArray)} (h : 20 < l.length) : envsL g n m l = [] := by
  unfold envsL envsOk; rw [decide_eq_false (by omega), Bool.false_and, if_neg (by decide)]
theorem envsL_bad {g n m : Int} {l : List (Int × ByteArray)} {j : Nat} (h : j < l.length) (hb : envB g n m (l.getD j shD).1 (l.getD j shD).2 = false) : envsL g n m l = [] := by
  unfold envsL envsOk
  rw [if_neg]
  intro hh
  rw [Bool.and_eq_true] at hh
  have := List.all_eq_true.1 hh.2 (l.getD j shD) (by rw [getD_mem shD h]; exact List.getElem_mem _)
  rw [hb] at this
  cases this
theorem envsL_ok {g n m : Int} {l : List (Int × ByteArray)} (h : l.length ≤ 20) (ha : ∀ t, t < l.length → envB g n m (l.getD t shD).1 (l.getD t shD).2 = true) : envsL g n m l = l.map (evOf g n m) := by
  unfold envsL envsOk
  rw [if_pos]
  rw [decide_eq_true h, Bool.true_and, List.all_eq_true]
  intro p hp
  obtain ⟨t, ht, rfl⟩ := List.mem_iff_getElem.1 hp
  have := ha t ht
  rwa [getD_mem shD ht] at this
theorem envsL_len (g n m : Int) (l : List (Int × ByteArray)) : (envsL g n m l).length ≤ 20 := by
  unfold envsL
  by_cases h : envsOk g n m l = true
  · rw [if_pos h, List.length_map]
    unfold envsOk at h
    rw [Bool.and_eq_true, decide_eq_true_eq] at h
    exact h.1
  · rw [if_neg h]; exact Nat.zero_le _
/-- An envelope in a block of its own. -/
structure EB (w : World) (h : Nat) (g n m x : Int) (t : ByteArray) : Prop where
  lt : h < w.heap.size
  c0 : w.cell? ⟨h, 0, none⟩ = some (.int .i64 g)
  c1 : w.cell? ⟨h, 1, none⟩ = some (.int .i64 n)
  c2 : w.cell? ⟨h, 2, none⟩ = some (.int .i64 m)
  c3 : w.cell? ⟨h, 3, none⟩ = some (.int .i64 x)
  c4 : w.cell? ⟨h, 4, none⟩ = some (.string t)
  free : w.frozen? ⟨h, 4, none⟩ = false
theorem EB.below {w w' : World} {h : Nat} {g n m x : Int} {t : ByteArray} (k : EB w h g n m x t) (hb : Below w.heap.size w w') : EB w' h g n m x t :=
  ⟨Nat.lt_of_lt_of_le k.lt hb.size, (hb.cell (p := ⟨h, 0, none⟩) k.lt).trans k.c0, (hb.cell (p := ⟨h, 1, none⟩) k.lt).trans k.c1, (hb.cell (p := ⟨h, 2, none⟩) k.lt).trans k.c2, (hb.cell (p := ⟨h, 3, none⟩) k.lt).trans k.c3, (hb.cell (p := ⟨h, 4, none⟩) k.lt).trans k.c4, (hb.frozen (p := ⟨h, 4, none⟩) k.lt).trans k.free⟩
theorem map_take {g n m : Int} {l : List (Int × ByteArray)} {j : Nat} (h : j < l.length) : (l.take (j + 1)).map (evOf g n m) = (l.take j).map (evOf g n m) ++ [⟨g, n, m, (l.getD j shD).1, (l.getD j shD).2⟩] := by
  rw [take_getDS h, List.map_append]; rfl
end Go.Proofs.YtnoefpkhbllmiaaGreatDoor
namespace Go.Proofs.YtnoefpkhbllmiaaGreatDoor
open Go.RowKit Go.PlainAid G MGet MGF IRow MNum MJoin
set_option linter.unusedVariables false
/-- A number is read from a place on; where it can not be, the place stays, and that is marked. -/
def sN (u : ByteArray) (q : Nat × Bool) : Int × (Nat × Bool) := if (rdS u q.1 10 0 0).2.2 = 0 then ((rdS u q.1 10 0 0).1, ((rdS u q.1 10 0 0).2.1.toNat, q.2)) else (0, (q.1, true))
def sT (u : ByteArray) (q : Nat × Bool) : ByteArray × (Nat × Bool) := if (txtS u q.1).2.2 = 0 then ((txtS u q.1).1, ((txtS u q.1).2.1.toNat, q.2)) else (⟨#[]⟩, (q.1, true))
def e1 (u : ByteArray) : Int × (Nat × Bool) := sN u (0, false)
def e2 (u : ByteArray) : Int × (Nat × Bool) := sN u (e1 u).2
def e3 (u : ByteArray) : Int × (Nat × Bool) := sN u (e2 u).2
def e4 (u : ByteArray) : Int × (Nat × Bool) := sN u (e3 u).2
def e5 (u : ByteArray) : ByteArray × (Nat × Bool) := sT u (e4 u).2
/-- Are these the bytes of a right envelope? -/
def rdOk (u : ByteArray) : Bool := !(e5 u).2.2 && (decide ((e5 u).2.1 = u.size) && envB (e1 u).1 (e2 u).1 (e3 u).1 (e4 u).1 (e5 u).1)
def rdEnv (u : ByteArray) : Ev := ⟨(e1 u).1, (e2 u).1, (e3 u).1, (e4 u).1, (e5 u).1⟩
/-- What EnvRead answers. -/
def readE (s : ByteArray) : Ev × Int := if (openS s).2.2 = 0 then (if rdOk (openS s).1 = true then (rdEnv (openS s).1, 0) else (evD, 3)) else (evD, (openS s).2.2)
theorem readE_code {s : ByteArray} (h : (openS s).2.2 ≠ 0) : readE s = (evD, (openS s).2.2) := by unfold readE; rw [if_neg h]
theorem readE_bad {s : ByteArray} (h : (openS s).2.2 = 0) (h2 : rdOk (openS s).1 = false) : readE s = (evD, 3) := by unfold readE; rw [if_pos h, if_neg (by rw [h2]; decide)]
theorem readE_ok {s : ByteArray} (h : (openS s).2.2 = 0) (h2 : rdOk (openS s).1 = true) : readE s = (rdEnv (openS s).1, 0) := by unfold readE; rw [if_pos h, if_pos h2]
theorem sN_bad {u : ByteArray} {q : Nat × Bool} (h : q.2 = true) : (sN u q).2.2 = true := by unfold sN; split <;> simp [h]
theorem sT_bad {u : ByteArray} {q : Nat × Bool} (h : q.2 = true) : (sT u q).2.2 = true := by unfold sT; split <;> simp [h]
theorem sN_no {u : ByteArray} {q : Nat × Bool} (h : (rdS u q.1 10 0 0).2.2 ≠ 0) : sN u q = (0, (q.1, true)) := by unfold sN; rw [if_neg h]
theorem sT_no {u : ByteArray} {q : Nat × Bool} (h : (txtS u q.1).2.2 ≠ 0) : sT u q = (⟨#[]⟩, (q.1, true)) := by unfold sT; rw [if_neg h]
/-- A number that is read: what comes of it, and a place within the bytes. -/
theorem sN_yes {u : ByteArray} {q : Nat × Bool} (h : (rdS u q.1 10 0 0).2.2 = 0) : rdS u q.1 10 0 0 = ((sN u q).1, (((sN u q).2.1 : Nat) : Int), 0) ∧ (sN u q).2.2 = q.2 ∧ (sN u q).2.1 ≤ u.size := by
  have hp := rd_place u q.1 10 0 0 h
  unfold sN
  rw [if_pos h]
  dsimp only
  refine ⟨?_, rfl, by omega⟩
  rw [Int.toNat_of_nonneg (by omega)]
  exact Prod.ext rfl (Prod.ext rfl h)
theorem txt_place {u : ByteArray} {a : Nat} (h : (txtS u a).2.2 = 0) : 0 ≤ (txtS u a).2.1 ∧ (txtS u a).2.1 ≤ (u.size : Int) := by
  unfold txtS at h ⊢
  split at h
  · rename_i h1; exact absurd h h1
  · rename_i h1
    rw [if_neg h1]
    split at h
    · exact absurd h (by decide)
    · rename_i h2
      rw [if_neg h2]
      split at h
      · exact absurd h (by decide)
      · rename_i h3
        rw [if_neg h3]
        have hp := rd_place u a 10 0 0 (by simpa using h1)
        dsimp only
        omega
theorem sT_yes {u : ByteArray} {q : Nat × Bool} (h : (txtS u q.1).2.2 = 0) : txtS u q.1 = ((sT u q).1, (((sT u q).2.1 : Nat) : Int), 0) ∧ (sT u q).2.2 = q.2 ∧ (sT u q).2.1 ≤ u.size := by
  have hp := txt_place h
  unfold sT
  rw [if_pos h]
  dsimp only
  refine ⟨?_, rfl, by omega⟩
  rw [Int.toNat_of_nonneg (by omega)]
  exact Prod.ext rfl (Prod.ext rfl h)
theorem rdOk_bad {u : ByteArray} (h : (e5 u).2.2 = true) : rdOk u = false := by unfold rdOk; rw [h]; rfl
/-- A reader in a block of its own: a text, and a place in it. -/
structure RB (w : World) (b : Nat) (u : ByteArray) (p : Int) : Prop where
  lt : b < w.heap.size
  c0 : w.cell? ⟨b, 0, none⟩ = some (.string u)
  c1 : w.cell? ⟨b, 1, none⟩ = some (.int .i64 p)
  free : w.frozen? ⟨b, 1, none⟩ = false
theorem RB.below {w w' : World} {b : Nat} {u : ByteArray} {p : Int} (k : RB w b u p) (hb : Below w.heap.size w w') : RB w' b u p :=
  ⟨Nat.lt_of_lt_of_le k.lt hb.size, (hb.cell (p := ⟨b, 0, none⟩) k.lt).trans k.c0, (hb.cell (p := ⟨b, 1, none⟩) k.lt).trans k.c1, (hb.frozen (p := ⟨b, 1, none⟩) k.lt).trans k.free⟩
theorem RB.put {w : World} {b : Nat} {u : ByteArray} {p : Int} (k : RB w b u p) (q : Int) : RB (w.setCell ⟨b, 1, none⟩ (.int .i64 q)) b u q := by
  obtain ⟨lt, c0, c1, free⟩ := k
  exact ⟨by simpa using lt, (World.cell?_setCell_other _ ⟨b, 1, none⟩ ⟨b, 0, none⟩ _ (by simp)).trans c0, World.cell?_setCell_same _ _ _ c1, by simpa using free⟩
theorem must_yes (w : World) : Calls Tryz.prog 45 #[.bool true] w fun e w' => e = .returned (.tuple #[]) ∧ w = w' := by
  go_enter Tryz.func45, Tryz.ntmps45
  go_wp2
  go_end0
  exact ⟨rfl, rfl⟩
theorem must_no (w : World) : Calls Tryz.prog 45 #[.bool false] w fun e w' => e = .panicked [{ v := errV 3, recovered := false }] ∧ w = w' := by
  go_enter Tryz.func45, Tryz.ntmps45
  go_wp2
  exact ⟨rfl, rfl, rfl⟩
set_option maxRecDepth 100000 in
set_option maxHeartbeats 1600000 in
theorem num_ok (b : Nat) (u : ByteArray) (a p : Nat) (n : Int) (w : World) (hR : RB w b u (a : Int)) (hu : u.size ≤ 8000) (ha : a ≤ u.size) (h : rdS u a 10 0 0 = (n, (p : Int), 0)) :
    Calls Tryz.prog 44 #[.pointer (some ⟨b, 0, none⟩)] w fun e w' => e = .returned (.int .i64 n) ∧ RB w' b u (p : Int) ∧ w.grownBy w' (some b) := by
  have HRD : Hid (∀ v : World, Calls Tryz.prog 61 #[.string u, .int .i64 (a : Int)] v fun e w' => e = .returned (.tuple #[.int .i64 n, .int .i64 (p : Int), .nilIface]) ∧ Below v.heap.size v w') := Lib.hid (fun v => by
    have hc := readNum_any u a v (by omega) hu
    rw [h, readV_ok] at hc
    exact hc)
  have HR := Lib.hid hR
  have hFn := hR.below (Below.refl _ _).drew
  have hBn : Below w.heap.size w w.drew := (Below.refl _ _).drew
  clear h hR
  go_enter Tryz.func44, Tryz.ntmps44
  go_wp2_with fail
  go_region_held3 (fun v => v.cell? ⟨b, 0, none⟩ = some (.string u) ∧ v.cell? ⟨b, 1, none⟩ = some (.int .i64 (a : Int))) (exact ⟨hFn.c0, hFn.c1⟩)
    (first
      | (go_at_call 61; refine Calls.mono (HRD.out _) ?_; rintro e w1 ⟨rfl, hb⟩; have hFn := hFn.below hb; have hBn := hBn.trans (hb.mono hBn.size)))
  all_goals
    have hc1 := hFn.c1
    have hfz := hFn.free
    have HF := Lib.hid hFn
    have HBn := Lib.hid hBn
    clear hFn hBn
    go_wp2_with fail
    refine (must_yes _).mono ?_
    rintro e w2 ⟨rfl, rfl⟩
    go_wp2_with fail
    go_ret
    exact ⟨rfl, HF.out.put _, grown_trans (fg_below HBn.out) (grown_set _ b 1 _)⟩
set_option maxRecDepth 100000 in
set_option maxHeartbeats 1600000 in
theorem num_bad (b : Nat) (u : ByteArray) (a : Nat) (w : World) (hR : RB w b u (a : Int)) (hu : u.size ≤ 8000) (ha : a ≤ u.size) (h : (rdS u a 10 0 0).2.2 ≠ 0) :
    Calls Tryz.prog 44 #[.pointer (some ⟨b, 0, none⟩)] w fun e w' => e = .panicked [{ v := errV 3, recovered := false }] ∧ Below w.heap.size w w' := by
  obtain ⟨c, hc⟩ : ∃ c, c = (rdS u a 10 0 0).2.2 := ⟨_, rfl⟩
  have HRD : Hid (∀ v : World, Calls Tryz.prog 61 #[.string u, .int .i64 (a : Int)] v fun e w' => e = .returned (.tuple #[.int .i64 0, .int .i64 0, errV c]) ∧ Below v.heap.size v w') := Lib.hid (fun v => by
    have hq := readNum_any u a v (by omega) hu
    rw [rd_zero u a 10 0 0 h, readV_err h, ← hc] at hq
    exact hq)
  have hFn := hR.below (Below.refl _ _).drew
  have hBn : Below w.heap.size w w.drew := (Below.refl _ _).drew
  unfold errV at HRD
  clear h hR hc
  go_enter Tryz.func44, Tryz.ntmps44
  go_wp2_with fail
  go_region_held3 (fun v => v.cell? ⟨b, 0, none⟩ = some (.string u) ∧ v.cell? ⟨b, 1, none⟩ = some (.int .i64 (a : Int))) (exact ⟨hFn.c0, hFn.c1⟩)
    (first
      | (go_at_call 61; refine Calls.mono (HRD.out _) ?_; rintro e w1 ⟨rfl, hb⟩; have hFn := hFn.below hb; have hBn := hBn.trans (hb.mono hBn.size)))
  all_goals
    have HBn := Lib.hid hBn
    clear hFn hBn
    go_wp2_with fail
    refine (must_no _).mono ?_
    rintro e w2 ⟨rfl, rfl⟩
    go_wp2_with fail
    exact ⟨rfl, rfl, HBn.out⟩
set_option maxRecDepth 100000 in
set_option maxHeartbeats 1600000 in
theorem text_ok (b : Nat) (u : ByteArray) (a p : Nat) (t : ByteArray) (w : World) (hR : RB w b u (a : Int)) (hu : u.size ≤ 8000) (ha : a ≤ u.size) (h : txtS u a = (t, (p : Int), 0)) :
    Calls Tryz.prog 65 #[.pointer (some ⟨b, 0, none⟩)] w fun e w' => e = .returned (.string t) ∧ RB w' b u (p : Int) ∧ w.grownBy w' (some b) := by
  have HRD : Hid (∀ v : World, Calls Tryz.prog 40 #[.string u, .int .i64 (a : Int)] v fun e w' => e = .returned (.tuple #[.string t, .int .i64 (p : Int), .nilIface]) ∧ Below v.heap.size v w') := Lib.hid (fun v => by
    have hc := readText_any u a v (by omega) hu
    rw [h, textV_ok] at hc
    exact hc)
  have hFn := hR.below (Below.refl _ _).drew
  have hBn : Below w.heap.size w w.drew := (Below.refl _ _).drew
  clear h hR
  go_enter Tryz.func65, Tryz.ntmps65
  go_wp2_with fail
  go_region_held3 (fun v => v.cell? ⟨b, 0, none⟩ = some (.string u) ∧ v.cell? ⟨b, 1, none⟩ = some (.int .i64 (a : Int))) (exact ⟨hFn.c0, hFn.c1⟩)
    (first
      | (go_at_call 40; refine Calls.mono (HRD.out _) ?_; rintro e w1 ⟨rfl, hb⟩; have hFn := hFn.below hb; have hBn := hBn.trans (hb.mono hBn.size)))
  all_goals
    have hc1 := hFn.c1
    have hfz := hFn.free
    have HF := Lib.hid hFn
    have HBn := Lib.hid hBn
    clear hFn hBn
    go_wp2_with fail
    refine (must_yes _).mono ?_
    rintro e w2 ⟨rfl, rfl⟩
    go_wp2_with fail
    go_ret
    exact ⟨rfl, HF.out.put _, grown_trans (fg_below HBn.out) (grown_set _ b 1 _)⟩
set_option maxRecDepth 100000 in
set_option maxHeartbeats 1600000 in
theorem text_bad (b : Nat) (u : ByteArray) (a : Nat) (w : World) (hR : RB w b u (a : Int)) (hu : u.size ≤ 8000) (ha : a ≤ u.size) (h : (txtS u a).2.2 ≠ 0) :
    Calls Tryz.prog 65 #[.pointer (some ⟨b, 0, none⟩)] w fun e w' => e = .panicked [{ v := errV 3, recovered := false }] ∧ Below w.heap.size w w' := by
  obtain ⟨c, hc⟩ : ∃ c, c = (txtS u a).2.2 := ⟨_, rfl⟩
  have HRD : Hid (∀ v : World, Calls Tryz.prog 40 #[.string u, .int .i64 (a : Int)] v fun e w' => e = .returned (.tuple #[.string ⟨#[]⟩, .int .i64 0, errV c]) ∧ Below v.heap.size v w') := Lib.hid (fun v => by
    have hq := readText_any u a v (by omega) hu
    rw [txt_zero u a h, textV_err h, ← hc] at hq
    exact hq)
  have hFn := hR.below (Below.refl _ _).drew
  have hBn : Below w.heap.size w w.drew := (Below.refl _ _).drew
  unfold errV at HRD
  clear h hR hc
  go_enter Tryz.func65, Tryz.ntmps65
  go_wp2_with fail
  go_region_held3 (fun v => v.cell? ⟨b, 0, none⟩ = some (.string u) ∧ v.cell? ⟨b, 1, none⟩ = some (.int .i64 (a : Int))) (exact ⟨hFn.c0, hFn.c1⟩)
    (first
      | (go_at_call 40; refine Calls.mono (HRD.out _) ?_; rintro e w1 ⟨rfl, hb⟩; have hFn := hFn.below hb; have hBn := hBn.trans (hb.mono hBn.size)))
  all_goals
    have HBn := Lib.hid hBn
    clear hFn hBn
    go_wp2_with fail
    refine (must_no _).mono ?_
    rintro e w2 ⟨rfl, rfl⟩
    go_wp2_with fail
    exact ⟨rfl, rfl, HBn.out⟩
set_option maxHeartbeats 800000 in
theorem unsealed_ok (s t : ByteArray) (w : World) (hs : s.size ≤ maxLen) (hg : ET w) (h : openS s = (t, 0, 0)) :
    Calls Tryz.prog 43 #[.string s] w fun e w' => e = .returned (.string t) ∧ Below w.heap.size w w' := by
  have hc := implUnseal_any s w hs hg
  rw [h] at hc
  have HC := Lib.hid hc
  clear h hc hg
  go_enter Tryz.func43, Tryz.ntmps43
  go_wp2_with fail
  refine HC.out.mono ?_
  rintro e w1 ⟨rfl, hb⟩
  unfold textOutV
  dsimp only
  have HB := Lib.hid (hb.alloc hb.size (.cells #[.string t, .int .i64 0, .int .i64 0] 37))
  clear hb
  go_wp2_with fail
  go_ret
  exact ⟨rfl, HB.out⟩
set_option maxHeartbeats 800000 in
theorem unsealed_bad (s : ByteArray) (w : World) (hs : s.size ≤ maxLen) (hg : ET w) (h : (openS s).2.2 ≠ 0) :
    Calls Tryz.prog 43 #[.string s] w fun e w' => e = .panicked [{ v := errV (openS s).2.2, recovered := false }] ∧ Below w.heap.size w w' := by
  have hc := implUnseal_any s w hs hg
  rw [openS_zero s h] at hc
  obtain ⟨c, hcc⟩ : ∃ c, c = (openS s).2.2 := ⟨_, rfl⟩
  rw [← hcc] at hc h ⊢
  have HC := Lib.hid hc
  have hcb : (c != 0) = true := by simp [h]
  clear h hc hg hcc
  go_enter Tryz.func43, Tryz.ntmps43
  go_wp2_with fail
  refine HC.out.mono ?_
  rintro e w1 ⟨rfl, hb⟩
  unfold textOutV
  dsimp only
  have HB := Lib.hid (hb.alloc hb.size (.cells #[.string ⟨#[]⟩, .int .i64 0, .int .i64 c] 37))
  clear hb
  go_wp2_with fail
  exact ⟨rfl, rfl, HB.out⟩
end Go.Proofs.YtnoefpkhbllmiaaGreatDoor
namespace Go.Proofs.YtnoefpkhbllmiaaGreatDoor
open Go.RowKit Go.PlainAid G MGet MGF IRow MNum MJoin
set_option linter.unusedVariables false
theorem sco {w : World} {h i j : Nat} {v : Value} (hne : j ≠ i) : (w.setCell ⟨h, j, none⟩ v).cell? ⟨h, i, none⟩ = w.cell? ⟨h, i, none⟩ := World.cell?_setCell_other _ _ _ _ (by simp [hne])
theorem put5 {w : World} {h : Nat} {v0 v1 v2 v3 v4 o0 o1 o2 o3 o4 : Value} (h0 : w.cell? ⟨h, 0, none⟩ = some o0) (h1 : w.cell? ⟨h, 1, none⟩ = some o1) (h2 : w.cell? ⟨h, 2, none⟩ = some o2) (h3 : w.cell? ⟨h, 3, none⟩ = some o3) (h4 : w.cell? ⟨h, 4, none⟩ = some o4) : (((((w.setCell ⟨h, 0, none⟩ v0).setCell ⟨h, 1, none⟩ v1).setCell ⟨h, 2, none⟩ v2).setCell ⟨h, 3, none⟩ v3).setCell ⟨h, 4, none⟩ v4).cell? ⟨h, 0, none⟩ = some v0 ∧ (((((w.setCell ⟨h, 0, none⟩ v0).setCell ⟨h, 1, none⟩ v1).setCell ⟨h, 2, none⟩ v2).setCell ⟨h, 3, none⟩ v3).setCell ⟨h, 4, none⟩ v4).cell? ⟨h, 1, none⟩ = some v1 ∧ (((((w.setCell ⟨h, 0, none⟩ v0).setCell ⟨h, 1, none⟩ v1).setCell ⟨h, 2, none⟩ v2).setCell ⟨h, 3, none⟩ v3).setCell ⟨h, 4, none⟩ v4).cell? ⟨h, 2, none⟩ = some v2 ∧ (((((w.setCell ⟨h, 0, none⟩ v0).setCell ⟨h, 1, none⟩ v1).setCell ⟨h, 2, none⟩ v2).setCell ⟨h, 3, none⟩ v3).setCell ⟨h, 4, none⟩ v4).cell? ⟨h, 3, none⟩ = some v3 ∧ (((((w.setCell ⟨h, 0, none⟩ v0).setCell ⟨h, 1, none⟩ v1).setCell ⟨h, 2, none⟩ v2).setCell ⟨h, 3, none⟩ v3).setCell ⟨h, 4, none⟩ v4).cell? ⟨h, 4, none⟩ = some v4 :=
  ⟨((sco (by decide)).trans ((sco (by decide)).trans ((sco (by decide)).trans ((sco (by decide)).trans (World.cell?_setCell_same _ _ _ h0))))), ((sco (by decide)).trans ((sco (by decide)).trans ((sco (by decide)).trans (World.cell?_setCell_same _ _ _ ((sco (by decide)).trans h1))))), ((sco (by decide)).trans ((sco (by decide)).trans (World.cell?_setCell_same _ _ _ ((sco (by decide)).trans ((sco (by decide)).trans h2))))), ((sco (by decide)).trans (World.cell?_setCell_same _ _ _ ((sco (by decide)).trans ((sco (by decide)).trans ((sco (by decide)).trans h3))))), (World.cell?_setCell_same _ _ _ ((sco (by decide)).trans ((sco (by decide)).trans ((sco (by decide)).trans ((sco (by decide)).trans h4)))))⟩
theorem put6 {w : World} {h : Nat} {v0 v1 v2 v3 v4 v5 o0 o1 o2 o3 o4 o5 : Value} (h0 : w.cell? ⟨h, 0, none⟩ = some o0) (h1 : w.cell? ⟨h, 1, none⟩ = some o1) (h2 : w.cell? ⟨h, 2, none⟩ = some o2) (h3 : w.cell? ⟨h, 3, none⟩ = some o3) (h4 : w.cell? ⟨h, 4, none⟩ = some o4) (h5 : w.cell? ⟨h, 5, none⟩ = some o5) : ((((((w.setCell ⟨h, 0, none⟩ v0).setCell ⟨h, 1, none⟩ v1).setCell ⟨h, 2, none⟩ v2).setCell ⟨h, 3, none⟩ v3).setCell ⟨h, 4, none⟩ v4).setCell ⟨h, 5, none⟩ v5).cell? ⟨h, 0, none⟩ = some v0 ∧ ((((((w.setCell ⟨h, 0, none⟩ v0).setCell ⟨h, 1, none⟩ v1).setCell ⟨h, 2, none⟩ v2).setCell ⟨h, 3, none⟩ v3).setCell ⟨h, 4, none⟩ v4).setCell ⟨h, 5, none⟩ v5).cell? ⟨h, 1, none⟩ = some v1 ∧ ((((((w.setCell ⟨h, 0, none⟩ v0).setCell ⟨h, 1, none⟩ v1).setCell ⟨h, 2, none⟩ v2).setCell ⟨h, 3, none⟩ v3).setCell ⟨h, 4, none⟩ v4).setCell ⟨h, 5, none⟩ v5).cell? ⟨h, 2, none⟩ = some v2 ∧ ((((((w.setCell ⟨h, 0, none⟩ v0).setCell ⟨h, 1, none⟩ v1).setCell ⟨h, 2, none⟩ v2).setCell ⟨h, 3, none⟩ v3).setCell ⟨h, 4, none⟩ v4).setCell ⟨h, 5, none⟩ v5).cell? ⟨h, 3, none⟩ = some v3 ∧ ((((((w.setCell ⟨h, 0, none⟩ v0).setCell ⟨h, 1, none⟩ v1).setCell ⟨h, 2, none⟩ v2).setCell ⟨h, 3, none⟩ v3).setCell ⟨h, 4, none⟩ v4).setCell ⟨h, 5, none⟩ v5).cell? ⟨h, 4, none⟩ = some v4 ∧ ((((((w.setCell ⟨h, 0, none⟩ v0).setCell ⟨h, 1, none⟩ v1).setCell ⟨h, 2, none⟩ v2).setCell ⟨h, 3, none⟩ v3).setCell ⟨h, 4, none⟩ v4).setCell ⟨h, 5, none⟩ v5).cell? ⟨h, 5, none⟩ = some v5 :=
  ⟨((sco (by decide)).trans ((sco (by decide)).trans ((sco (by decide)).trans ((sco (by decide)).trans ((sco (by decide)).trans (World.cell?_setCell_same _ _ _ h0)))))), ((sco (by decide)).trans ((sco (by decide)).trans ((sco (by decide)).trans ((sco (by decide)).trans (World.cell?_setCell_same _ _ _ ((sco (by decide)).trans h1)))))), ((sco (by decide)).trans ((sco (by decide)).trans ((sco (by decide)).trans (World.cell?_setCell_same _ _ _ ((sco (by decide)).trans ((sco (by decide)).trans h2)))))), ((sco (by decide)).trans ((sco (by decide)).trans (World.cell?_setCell_same _ _ _ ((sco (by decide)).trans ((sco (by decide)).trans ((sco (by decide)).trans h3)))))), ((sco (by decide)).trans (World.cell?_setCell_same _ _ _ ((sco (by decide)).trans ((sco (by decide)).trans ((sco (by decide)).trans ((sco (by decide)).trans h4)))))), (World.cell?_setCell_same _ _ _ ((sco (by decide)).trans ((sco (by decide)).trans ((sco (by decide)).trans ((sco (by decide)).trans ((sco (by decide)).trans h5))))))⟩
theorem own_kept {w w' : World} {base h b n c : Nat} {e : TypeId} {size : Nat} {xs : List Value} (k : w.ownsRow base e size (.slice (some ⟨h, 0, none⟩) n c) n xs) (hg : w.grownBy w' (some b)) (hne : h ≠ b) : w'.ownsRow base e size (.slice (some ⟨h, 0, none⟩) n c) n xs :=
  k.kept hg (.inr (fun h2 => by simp only [Value.ownBlock, Option.some.injEq] at h2; exact hne h2))
theorem below_kept {B : Nat} {a w w' : World} {b : Nat} (h : Below B a w) (hg : w.grownBy w' (some b)) (hB : B ≤ w.heap.size) (hb : B ≤ b) : Below B a w' :=
  h.grown hg hB (fun k hk => by cases hk; exact hb)
/-- An envelope, or a panic with ErrSyntax. -/
def EnvOr (u : ByteArray) (w : World) (e : Ending) (w' : World) : Prop :=
  (if rdOk u = true then e = .returned (.agg #[.int .i64 (rdEnv u).g, .int .i64 (rdEnv u).n, .int .i64 (rdEnv u).m, .int .i64 (rdEnv u).x, .string (rdEnv u).t]) else e = .panicked [{ v := errV 3, recovered := false }]) ∧ Below w.heap.size w w'
theorem or_bad {u : ByteArray} {w w' : World} (h : rdOk u = false) (hb : Below w.heap.size w w') : EnvOr u w (.panicked [{ v := errV 3, recovered := false }]) w' := ⟨by rw [if_neg (by rw [h]; decide)], hb⟩
theorem or_ok {u : ByteArray} {w w' : World} (h : rdOk u = true) (hb : Below w.heap.size w w') : EnvOr u w (.returned (.agg #[.int .i64 (e1 u).1, .int .i64 (e2 u).1, .int .i64 (e3 u).1, .int .i64 (e4 u).1, .string (e5 u).1])) w' := ⟨by rw [if_pos h]; rfl, hb⟩
theorem rdOk_is {u : ByteArray} {p : Nat} {b : Bool} (h5 : (e5 u).2.2 = false) (hp : (e5 u).2.1 = p) (hb : envB (e1 u).1 (e2 u).1 (e3 u).1 (e4 u).1 (e5 u).1 = b) : rdOk u = (decide (p = u.size) && b) := by unfold rdOk; rw [h5, hp, hb]; rfl
theorem txt_fits {u : ByteArray} {a : Nat} (hu : u.size ≤ 8000) : (txtS u a).1.size ≤ 8000 := by
  unfold txtS
  split
  · exact Nat.zero_le _
  · split
    · exact Nat.zero_le _
    · split
      · exact Nat.zero_le _
      · dsimp only
        rw [ByteArray.size_extract]
        omega
theorem e5_fits {u : ByteArray} (hu : u.size ≤ 8000) : (e5 u).1.size ≤ maxLen := by
  unfold e5 sT
  split
  · exact Nat.le_trans (txt_fits hu) (by unfold maxLen; omega)
  · exact Nat.zero_le _
end Go.Proofs.YtnoefpkhbllmiaaGreatDoor
