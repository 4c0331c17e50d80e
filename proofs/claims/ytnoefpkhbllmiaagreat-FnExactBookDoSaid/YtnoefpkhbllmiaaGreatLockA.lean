/- What is locked: by numbers; what the model's and the program's functions answer. -/
import Derived.Test.YtnoefpkhbllmiaaGreatChap2
import Derived.Test.YtnoefpkhbllmiaaGreatMBytes
import Derived.Lib.ConvBytes
import Derived.StillTailTactics
import Derived.Deep.RegionHeld3
namespace Go.Proofs.YtnoefpkhbllmiaaGreat
open Go.RowKit Go.PlainAid G
set_option linter.unusedVariables false
/-- A text of 1 to 16 bytes. -/
def secR (t : ByteArray) : Bool := decide (1 ≤ t.size ∧ t.size ≤ 16)
theorem secR_yes {t : ByteArray} (h1 : 1 ≤ t.size) (h2 : t.size ≤ 16) : secR t = true := decide_eq_true ⟨h1, h2⟩
theorem secR_no {t : ByteArray} (h : ¬ (1 ≤ t.size ∧ t.size ≤ 16)) : secR t = false := decide_eq_false h
theorem secR_iff {t : ByteArray} : secR t = true ↔ 1 ≤ t.size ∧ t.size ≤ 16 := decide_eq_true_iff
/-- A byte that is locked. -/
def lkB (key : ByteArray) (n : Nat) (t : ByteArray) (k : Nat) : Int := bits .xor .u8 (bt t k) (bt key ((k + n) % key.size))
theorem lkB_range (key : ByteArray) (n : Nat) (t : ByteArray) (k : Nat) : 0 ≤ lkB key n t k ∧ lkB key n t k ≤ 255 := bounds_u8 (wf_bits _ _ _ _)
def lkL (key : ByteArray) (n : Nat) (t : ByteArray) : List Int := (List.range t.size).map (lkB key n t)
def lkS (key : ByteArray) (n : Nat) (t : ByteArray) : ByteArray := strOfNums (lkL key n t)
theorem lkS_size (key : ByteArray) (n : Nat) (t : ByteArray) : (lkS key n t).size = t.size := by unfold lkS lkL; rw [strOfNums_size]; simp
def lkOk (key : ByteArray) (n : Int) (t : ByteArray) : Prop := (1 ≤ key.size ∧ key.size ≤ 16) ∧ (0 ≤ n ∧ n ≤ 1000000) ∧ t.size ≤ 40
instance (key : ByteArray) (n : Int) (t : ByteArray) : Decidable (lkOk key n t) := by unfold lkOk; infer_instance
def lockS (key : ByteArray) (n : Int) (t : ByteArray) : ByteArray := if lkOk key n t then lkS key n.toNat t else ⟨#[]⟩
theorem lockS_yes {key : ByteArray} {n : Int} {t : ByteArray} (h : lkOk key n t) : lockS key n t = lkS key n.toNat t := if_pos h
theorem lockS_no {key : ByteArray} {n : Int} {t : ByteArray} (h : ¬ lkOk key n t) : lockS key n t = ⟨#[]⟩ := if_neg h
/-- A row of bytes in a block, told by a function. -/
structure LkAt (w : World) (g n : Nat) (f : Nat → Int) : Prop where
  cell : ∀ i, i < n → w.cell? ⟨g, i, none⟩ = some (.int .u8 (f i))
  free : ∀ i, i < n → w.frozen? ⟨g, i, none⟩ = false
theorem LkAt.below {w w' : World} {g n : Nat} {f : Nat → Int} (h : LkAt w g n f) (hb : Below w.heap.size w w') (hg : g < w.heap.size) : LkAt w' g n f :=
  ⟨fun i hi => (hb.cell (p := ⟨g, i, none⟩) hg).trans (h.cell i hi), fun i hi => (hb.frozen (p := ⟨g, i, none⟩) hg).trans (h.free i hi)⟩
theorem LkAt.drew {w : World} {g n : Nat} {f : Nat → Int} (h : LkAt w g n f) : LkAt w.drew g n f := ⟨h.cell, h.free⟩
theorem LkAt.congr {w : World} {g n : Nat} {f f' : Nat → Int} (h : LkAt w g n f) (he : ∀ i, i < n → f i = f' i) : LkAt w g n f' :=
  ⟨fun i hi => by rw [h.cell i hi, he i hi], h.free⟩
theorem LkAt.set {w : World} {g n k : Nat} {f : Nat → Int} (h : LkAt w g n f) (y : Int) : LkAt (w.setCell ⟨g, k, none⟩ (.int .u8 y)) g n (fun i => if i = k then y else f i) := by
  constructor
  · intro i hi
    by_cases hij : i = k
    · subst hij
      rw [World.cell?_setCell_same _ _ _ (h.cell i hi), if_pos rfl]
    · rw [World.cell?_setCell_other _ _ _ _ (by intro h2; simp_all), h.cell i hi, if_neg hij]
  · intro i hi
    rw [World.frozen?_setCell]
    exact h.free i hi
/-- What the loop has turned, and what it has not. -/
def lkM (key : ByteArray) (n : Nat) (t : ByteArray) (old : Nat → Int) (k i : Nat) : Int := if i < k then lkB key n t i else old i
theorem lkM_step (key : ByteArray) (n : Nat) (t : ByteArray) (old : Nat → Int) (k i : Nat) : (if i = k then lkB key n t k else lkM key n t old k i) = lkM key n t old (k + 1) i := by
  unfold lkM
  by_cases h : i = k
  · subst h
    rw [if_pos rfl, if_pos (by omega)]
  · rw [if_neg h]
    by_cases h2 : i < k
    · rw [if_pos h2, if_pos (by omega)]
    · rw [if_neg h2, if_neg (by omega)]
theorem conv_lk {P : Program} {w : World} (src dst e : TypeId) (hs : P.underlying src = some (.slice e)) (he : P.underlying e = some (.int .u8)) (hd : P.underlying dst = some .string)
    {g cap k : Nat} {key t : ByteArray} {n : Nat} {old : Nat → Int} (h : LkAt w g t.size (lkM key n t old k)) (hk : t.size ≤ k) :
    (convert src dst (.slice (some ⟨g, 0, none⟩) t.size cap)).run P w = .ok (.string (lkS key n t)) w := by
  refine run_convert_bytes_arg (P := P) _ src e hs he g 0 t.size cap _ (by simp [lkL]) (fun i hi => ?_) dst hd
  rw [Nat.zero_add, h.cell i hi]
  unfold lkM lkL
  rw [if_pos (by omega)]
  simp [List.getD, hi]
theorem lk_bytes (w : World) (e : TypeId) (s : ByteArray) : LkAt (Lib.bytesWorld w e s) w.heap.size s.size (bt s) := by
  constructor
  · intro i hi
    rw [Lib.bytesWorld_cell w e s i hi]
    have h2 : i < s.data.toList.length := by simpa using hi
    unfold bt
    rw [dif_pos hi, List.getD_eq_getElem?_getD, List.getElem?_eq_getElem h2]
    rfl
  · intro i hi
    unfold World.frozen?
    simp only [Lib.bytesWorld_at_new]
    have hsz : s.size ≤ (Lib.bytesCells w e s).size := by simp [Lib.bytesCells]
    simp
    omega
theorem below_lk (w : World) (e : TypeId) (s : ByteArray) : Below w.heap.size w (Lib.bytesWorld w e s) :=
  ⟨rfl, rfl, rfl, by rw [Lib.bytesWorld_size]; omega, fun k hk => Lib.bytesWorld_at_old w e s k hk⟩
theorem secretOk_any (t : ByteArray) (w : World) (ht : t.size ≤ maxLen) :
    Calls Tryz.prog 70 #[.string t] w fun e w' => e = .returned (.bool (secR t)) ∧ w = w' := by
  unfold maxLen at ht
  by_cases h1 : 1 ≤ t.size
  · by_cases h2 : t.size ≤ 16
    · have HF := Lib.hid (secR_yes h1 h2).symm
      go_enter Tryz.func70, Tryz.ntmps70
      go_wp2
      go_ret
      exact ⟨ret_bool (by rw [← HF.out]; simp; omega), rfl⟩
    · have HF := Lib.hid (secR_no (t := t) (by omega)).symm
      go_enter Tryz.func70, Tryz.ntmps70
      go_wp2
      go_ret
      exact ⟨ret_bool (by rw [← HF.out]; simp; omega), rfl⟩
  · have HF := Lib.hid (secR_no (t := t) (by omega)).symm
    have h0 : t.size = 0 := by omega
    go_enter Tryz.func70, Tryz.ntmps70
    go_wp2
    go_ret
    exact ⟨ret_bool HF.out, rfl⟩
theorem l04SecretOk_any (t : ByteArray) (w : World) (ht : t.size ≤ maxLen) :
    Calls Tryz.prog 59 #[.string t] w fun e w' => e = .returned (.bool (secR t)) ∧ w = w' := by
  unfold maxLen at ht
  by_cases h1 : 1 ≤ t.size
  · by_cases h2 : t.size ≤ 16
    · have HF := Lib.hid (secR_yes h1 h2).symm
      go_enter Tryz.func59, Tryz.ntmps59
      go_wp2
      go_ret
      exact ⟨ret_bool (by rw [← HF.out]; simp; omega), rfl⟩
    · have HF := Lib.hid (secR_no (t := t) (by omega)).symm
      go_enter Tryz.func59, Tryz.ntmps59
      go_wp2
      go_ret
      exact ⟨ret_bool (by rw [← HF.out]; simp; omega), rfl⟩
  · have HF := Lib.hid (secR_no (t := t) (by omega)).symm
    have h0 : t.size = 0 := by omega
    go_enter Tryz.func59, Tryz.ntmps59
    go_wp2
    go_ret
    exact ⟨ret_bool HF.out, rfl⟩
theorem l02IsOk_any (n low high : Int) (w : World) :
    Calls Tryz.prog 58 #[.int .i64 n, .int .i64 low, .int .i64 high] w fun e w' => e = .returned (.bool (decide (low ≤ n ∧ n ≤ high))) ∧ w = w' := by
  by_cases h1 : low ≤ n
  · by_cases h2 : n ≤ high
    · go_enter Tryz.func58, Tryz.ntmps58
      go_wp2_with fail
      go_ret
      exact ⟨ret_bool (by simp [h1, h2]), rfl⟩
    · go_enter Tryz.func58, Tryz.ntmps58
      go_wp2_with fail
      go_ret
      exact ⟨ret_bool (by simp [h2]), rfl⟩
  · go_enter Tryz.func58, Tryz.ntmps58
    go_wp2_with fail
    go_ret
    exact ⟨ret_bool (by simp; omega), rfl⟩
/-- The check of a master. -/
def chkT : ByteArray := ⟨#[99, 104, 101, 99, 107, 32]⟩
def checkI (m : ByteArray) : Int := if secR m = true then crcI (chkT ++ m) else -1
end Go.Proofs.YtnoefpkhbllmiaaGreat
