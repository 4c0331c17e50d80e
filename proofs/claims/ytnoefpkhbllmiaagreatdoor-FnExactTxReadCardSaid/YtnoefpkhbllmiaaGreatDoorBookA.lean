/- Texts put together. -/
import Derived.Test.YtnoefpkhbllmiaaGreatDoorGRow
import Derived.Laws.IdiomStrings
import Derived.PlainAid
import Derived.Test.YtnoefpkhbllmiaaGreatDoorChap2
import Derived.Lib.ConvBytes
import Derived.StillTailTactics
import Derived.Deep.RegionHeld3
import Derived.Test.YtnoefpkhbllmiaaGreatDoorRowBook
namespace Go.Proofs.YtnoefpkhbllmiaaGreatDoor.G
open Go.RowKit Go.PlainAid
/-- A block holds a text's bytes, none of them barred. -/
structure BytesAt (w : World) (g : Nat) (s : ByteArray) : Prop where
  cell : ∀ i, i < s.size → w.cell? ⟨g, i, none⟩ = some (.int .u8 (bt s i))
  free : ∀ i, i < s.size → w.frozen? ⟨g, i, none⟩ = false
theorem bytesAt_made (w : World) (s : ByteArray) (cap : Nat) (e : TypeId) :
    BytesAt ((w.alloc (.cells (bytesRow s cap) e ((bytesRow s cap).size, (bytesRow s cap).size + 1))).drew) w.heap.size s := by
  have hh : ((w.alloc (.cells (bytesRow s cap) e ((bytesRow s cap).size, (bytesRow s cap).size + 1))).drew).heap[w.heap.size]? = some (.cells (bytesRow s cap) e ((bytesRow s cap).size, (bytesRow s cap).size + 1)) := heap_alloc_new w _
  have hsz : s.size ≤ (bytesRow s cap).size := by simp [bytesRow]
  constructor
  · intro i hi
    rw [cell_of_row _ _ i _ _ _ hh, bytesRow_at s cap i (by simpa using hi)]
    unfold bt
    rw [dif_pos hi]
    rfl
  · intro i hi
    unfold World.frozen?
    simp only [hh]
    simp
    omega
theorem BytesAt.drew {w : World} {g : Nat} {s : ByteArray} (h : BytesAt w g s) : BytesAt w.drew g s := ⟨h.cell, h.free⟩
theorem BytesAt.below {w w' : World} {g : Nat} {s : ByteArray} (h : BytesAt w g s) (hb : Below w.heap.size w w') (hg : g < w.heap.size) : BytesAt w' g s :=
  ⟨fun i hi => (hb.cell hg).trans (h.cell i hi), fun i hi => (hb.frozen hg).trans (h.free i hi)⟩
/-- One byte turned. -/
def turned (s : ByteArray) (j : Nat) (y : Int) : ByteArray := strOfNums ((List.range s.size).map fun i => if i = j then y else bt s i)
theorem turned_size (s : ByteArray) (j : Nat) (y : Int) : (turned s j y).size = s.size := by unfold turned; rw [strOfNums_size]; simp
theorem bt_strOfNums {zs : List Int} {i : Nat} (h : ∀ z ∈ zs, 0 ≤ z ∧ z ≤ 255) (hi : i < zs.length) : bt (strOfNums zs) i = zs.getD i 0 := by
  have hs : i < (strOfNums zs).size := by rw [strOfNums_size]; exact hi
  have hz := h zs[i] (List.getElem_mem hi)
  unfold bt
  rw [dif_pos hs]
  have e : (strOfNums zs)[i] = UInt8.ofNat zs[i].toNat := by
    show (strOfNums zs).data[i] = _
    simp [strOfNums]
  rw [e]
  simp [List.getD, List.getElem?_eq_getElem hi]
  omega
theorem bt_turned {s : ByteArray} {j i : Nat} {y : Int} (hy : 0 ≤ y ∧ y ≤ 255) (hi : i < s.size) : bt (turned s j y) i = if i = j then y else bt s i := by
  unfold turned
  rw [bt_strOfNums (fun z hz => by
    obtain ⟨k, hk, rfl⟩ := List.mem_map.1 hz
    split
    · exact hy
    · exact ⟨bt_nonneg s k, bt_le s k⟩) (by simpa using hi)]
  simp [List.getD, hi]
theorem conv_turned {P : Program} {w : World} (src dst e : TypeId) (hs : P.underlying src = some (.slice e)) (he : P.underlying e = some (.int .u8)) (hd : P.underlying dst = some .string)
    {g j cap : Nat} {s : ByteArray} {y : Int} (h : BytesAt w g s) (hj : j < s.size) :
    (convert src dst (.slice (some ⟨g, 0, none⟩) s.size cap)).run P (w.setCell ⟨g, j, none⟩ (.int .u8 y)) = .ok (.string (turned s j y)) (w.setCell ⟨g, j, none⟩ (.int .u8 y)) := by
  refine run_convert_bytes_arg (P := P) _ src e hs he g 0 s.size cap _ (by simp) (fun i hi => ?_) dst hd
  rw [Nat.zero_add]
  by_cases hij : i = j
  · subst hij
    rw [World.cell?_setCell_same _ _ _ (h.cell i hi)]
    simp [List.getD, hi]
  · rw [World.cell?_setCell_other _ _ _ _ (by intro h2; simp_all), h.cell i hi]
    simp [List.getD, hi, hij]
/-- The cells of a text with one byte turned. -/
def TurnedAt (w : World) (g : Nat) (s : ByteArray) (j : Nat) (y : Int) : Prop := ∀ i, i < s.size → w.cell? ⟨g, i, none⟩ = some (.int .u8 (if i = j then y else bt s i))
theorem turned_made {w : World} {g j : Nat} {s : ByteArray} {y : Int} (h : BytesAt w g s) (hj : j < s.size) : TurnedAt (w.setCell ⟨g, j, none⟩ (.int .u8 y)) g s j y := by
  intro i hi
  by_cases hij : i = j
  · subst hij
    rw [World.cell?_setCell_same _ _ _ (h.cell i hi), if_pos rfl]
  · rw [World.cell?_setCell_other _ _ _ _ (by intro h2; simp_all), h.cell i hi, if_neg hij]
theorem TurnedAt.below {w w' : World} {g j : Nat} {s : ByteArray} {y : Int} (h : TurnedAt w g s j y) (hb : Below w.heap.size w w') (hg : g < w.heap.size) : TurnedAt w' g s j y :=
  fun i hi => (hb.cell hg).trans (h i hi)
theorem TurnedAt.alloc {w : World} {g j : Nat} {s : ByteArray} {y : Int} (h : TurnedAt w g s j y) (hg : g < w.heap.size) (o : Obj) : TurnedAt (w.alloc o) g s j y :=
  h.below ((Below.refl _ _).alloc (Nat.le_refl _) o) hg
theorem conv_at {P : Program} {w : World} (src dst e : TypeId) (hs : P.underlying src = some (.slice e)) (he : P.underlying e = some (.int .u8)) (hd : P.underlying dst = some .string)
    {g j cap : Nat} {s : ByteArray} {y : Int} (h : TurnedAt w g s j y) :
    (convert src dst (.slice (some ⟨g, 0, none⟩) s.size cap)).run P w = .ok (.string (turned s j y)) w := by
  refine run_convert_bytes_arg (P := P) _ src e hs he g 0 s.size cap _ (by simp) (fun i hi => ?_) dst hd
  rw [Nat.zero_add, h i hi]
  simp [List.getD, hi]
end Go.Proofs.YtnoefpkhbllmiaaGreatDoor.G
namespace Go.Proofs.YtnoefpkhbllmiaaGreatDoor
open Go.RowKit Go.PlainAid G
set_option linter.unusedVariables false
/-- A text of 1 to 16 bytes. -/
def secR (t : ByteArray) : Bool := decide (1 ≤ t.size ∧ t.size ≤ 16)
theorem secR_yes {t : ByteArray} (h1 : 1 ≤ t.size) (h2 : t.size ≤ 16) : secR t = true := decide_eq_true ⟨h1, h2⟩
theorem secR_no {t : ByteArray} (h : ¬ (1 ≤ t.size ∧ t.size ≤ 16)) : secR t = false := decide_eq_false h
theorem secR_iff {t : ByteArray} : secR t = true ↔ 1 ≤ t.size ∧ t.size ≤ 16 := decide_eq_true_iff
/-- A byte that is locked. -/
def lkB (key : ByteArray) (n : Nat) (t : ByteArray) (k : Nat) : Int := bits .xor .u8 (bt t k) (bt key ((k + n) % key.size))
theorem lkB_range (key : ByteArray) (n : Nat) (t : ByteArray) (k : Nat) : 0 ≤ lkB key n t k ∧ lkB key n t k ≤ 255 := bounds_u8 (wf_bits _ _ _ _)
def lkL (key : ByteArray) (n : Nat) (t : ByteArray) : List Int := (List.range t.size).map (lkB key n t)
def lkS (key : ByteArray) (n : Nat) (t : ByteArray) : ByteArray := strOfNums (lkL key n t)
theorem lkS_size (key : ByteArray) (n : Nat) (t : ByteArray) : (lkS key n t).size = t.size := by unfold lkS lkL; rw [strOfNums_size]; simp
def lkOk (key : ByteArray) (n : Int) (t : ByteArray) : Prop := (1 ≤ key.size ∧ key.size ≤ 16) ∧ (0 ≤ n ∧ n ≤ 1000000) ∧ t.size ≤ 40
instance (key : ByteArray) (n : Int) (t : ByteArray) : Decidable (lkOk key n t) := by unfold lkOk; infer_instance
def lockS (key : ByteArray) (n : Int) (t : ByteArray) : ByteArray := if lkOk key n t then lkS key n.toNat t else ⟨#[]⟩
theorem lockS_yes {key : ByteArray} {n : Int} {t : ByteArray} (h : lkOk key n t) : lockS key n t = lkS key n.toNat t := if_pos h
theorem lockS_no {key : ByteArray} {n : Int} {t : ByteArray} (h : ¬ lkOk key n t) : lockS key n t = ⟨#[]⟩ := if_neg h
/-- A row of bytes in a block, told by a function. -/
structure LkAt (w : World) (g n : Nat) (f : Nat → Int) : Prop where
  cell : ∀ i, i < n → w.cell? ⟨g, i, none⟩ = some (.int .u8 (f i))
  free : ∀ i, i < n → w.frozen? ⟨g, i, none⟩ = false
theorem LkAt.below {w w' : World} {g n : Nat} {f : Nat → Int} (h : LkAt w g n f) (hb : Below w.heap.size w w') (hg : g < w.heap.size) : LkAt w' g n f :=
  ⟨fun i hi => (hb.cell (p := ⟨g, i, none⟩) hg).trans (h.cell i hi), fun i hi => (hb.frozen (p := ⟨g, i, none⟩) hg).trans (h.free i hi)⟩
theorem LkAt.drew {w : World} {g n : Nat} {f : Nat → Int} (h : LkAt w g n f) : LkAt w.drew g n f := ⟨h.cell, h.free⟩
theorem LkAt.congr {w : World} {g n : Nat} {f f' : Nat → Int} (h : LkAt w g n f) (he : ∀ i, i < n → f i = f' i) : LkAt w g n f' :=
  ⟨fun i hi => by rw [h.cell i hi, he i hi], h.free⟩
theorem LkAt.set {w : World} {g n k : Nat} {f : Nat → Int} (h : LkAt w g n f) (y : Int) : LkAt (w.setCell ⟨g, k, none⟩ (.int .u8 y)) g n (fun i => if i = k then y else f i) := by
  constructor
  · intro i hi
    by_cases hij : i = k
    · subst hij
      rw [World.cell?_setCell_same _ _ _ (h.cell i hi), if_pos rfl]
    · rw [World.cell?_setCell_other _ _ _ _ (by intro h2; simp_all), h.cell i hi, if_neg hij]
  · intro i hi
    rw [World.frozen?_setCell]
    exact h.free i hi
/-- What the loop has turned, and what it has not. -/
def lkM (key : ByteArray) (n : Nat) (t : ByteArray) (old : Nat → Int) (k i : Nat) : Int := if i < k then lkB key n t i else old i
theorem lkM_step (key : ByteArray) (n : Nat) (t : ByteArray) (old : Nat → Int) (k i : Nat) : (if i = k then lkB key n t k else lkM key n t old k i) = lkM key n t old (k + 1) i := by
  unfold lkM
  by_cases h : i = k
  · subst h
    rw [if_pos rfl, if_pos (by omega)]
  · rw [if_neg h]
    by_cases h2 : i < k
    · rw [if_pos h2, if_pos (by omega)]
    · rw [if_neg h2, if_neg (by omega)]
theorem conv_lk {P : Program} {w : World} (src dst e : TypeId) (hs : P.underlying src = some (.slice e)) (he : P.underlying e = some (.int .u8)) (hd : P.underlying dst = some .string)
    {g cap k : Nat} {key t : ByteArray} {n : Nat} {old : Nat → Int} (h : LkAt w g t.size (lkM key n t old k)) (hk : t.size ≤ k) :
    (convert src dst (.slice (some ⟨g, 0, none⟩) t.size cap)).run P w = .ok (.string (lkS key n t)) w := by
  refine run_convert_bytes_arg (P := P) _ src e hs he g 0 t.size cap _ (by simp [lkL]) (fun i hi => ?_) dst hd
  rw [Nat.zero_add, h.cell i hi]
  unfold lkM lkL
  rw [if_pos (by omega)]
  simp [List.getD, hi]
theorem lk_bytes (w : World) (e : TypeId) (s : ByteArray) : LkAt (Lib.bytesWorld w e s) w.heap.size s.size (bt s) := by
  constructor
  · intro i hi
    rw [Lib.bytesWorld_cell w e s i hi]
    have h2 : i < s.data.toList.length := by simpa using hi
    unfold bt
    rw [dif_pos hi, List.getD_eq_getElem?_getD, List.getElem?_eq_getElem h2]
    rfl
  · intro i hi
    unfold World.frozen?
    simp only [Lib.bytesWorld_at_new]
    have hsz : s.size ≤ (Lib.bytesCells w e s).size := by simp [Lib.bytesCells]
    simp
    omega
theorem below_lk (w : World) (e : TypeId) (s : ByteArray) : Below w.heap.size w (Lib.bytesWorld w e s) :=
  ⟨rfl, rfl, rfl, by rw [Lib.bytesWorld_size]; omega, fun k hk => Lib.bytesWorld_at_old w e s k hk⟩
theorem secretOk_any (t : ByteArray) (w : World) (ht : t.size ≤ maxLen) :
    Calls Tryz.prog 149 #[.string t] w fun e w' => e = .returned (.bool (secR t)) ∧ w = w' := by
  unfold maxLen at ht
  by_cases h1 : 1 ≤ t.size
  · by_cases h2 : t.size ≤ 16
    · have HF := Lib.hid (secR_yes h1 h2).symm
      go_enter Tryz.func149, Tryz.ntmps149
      go_wp2
      go_ret
      exact ⟨ret_bool (by rw [← HF.out]; simp; omega), rfl⟩
    · have HF := Lib.hid (secR_no (t := t) (by omega)).symm
      go_enter Tryz.func149, Tryz.ntmps149
      go_wp2
      go_ret
      exact ⟨ret_bool (by rw [← HF.out]; simp; omega), rfl⟩
  · have HF := Lib.hid (secR_no (t := t) (by omega)).symm
    have h0 : t.size = 0 := by omega
    go_enter Tryz.func149, Tryz.ntmps149
    go_wp2
    go_ret
    exact ⟨ret_bool HF.out, rfl⟩
theorem l04SecretOk_any (t : ByteArray) (w : World) (ht : t.size ≤ maxLen) :
    Calls Tryz.prog 77 #[.string t] w fun e w' => e = .returned (.bool (secR t)) ∧ w = w' := by
  unfold maxLen at ht
  by_cases h1 : 1 ≤ t.size
  · by_cases h2 : t.size ≤ 16
    · have HF := Lib.hid (secR_yes h1 h2).symm
      go_enter Tryz.func77, Tryz.ntmps77
      go_wp2
      go_ret
      exact ⟨ret_bool (by rw [← HF.out]; simp; omega), rfl⟩
    · have HF := Lib.hid (secR_no (t := t) (by omega)).symm
      go_enter Tryz.func77, Tryz.ntmps77
      go_wp2
      go_ret
      exact ⟨ret_bool (by rw [← HF.out]; simp; omega), rfl⟩
  · have HF := Lib.hid (secR_no (t := t) (by omega)).symm
    have h0 : t.size = 0 := by omega
    go_enter Tryz.func77, Tryz.ntmps77
    go_wp2
    go_ret
    exact ⟨ret_bool HF.out, rfl⟩
theorem l02IsOk_any (n low high : Int) (w : World) :
    Calls Tryz.prog 36 #[.int .i64 n, .int .i64 low, .int .i64 high] w fun e w' => e = .returned (.bool (decide (low ≤ n ∧ n ≤ high))) ∧ w = w' := by
  by_cases h1 : low ≤ n
  · by_cases h2 : n ≤ high
    · go_enter Tryz.func36, Tryz.ntmps36
      go_wp2_with fail
      go_ret
      exact ⟨ret_bool (by simp [h1, h2]), rfl⟩
    · go_enter Tryz.func36, Tryz.ntmps36
      go_wp2_with fail
      go_ret
      exact ⟨ret_bool (by simp [h2]), rfl⟩
  · go_enter Tryz.func36, Tryz.ntmps36
    go_wp2_with fail
    go_ret
    exact ⟨ret_bool (by simp; omega), rfl⟩
/-- The check of a master. -/
def chkT : ByteArray := ⟨#[99, 104, 101, 99, 107, 32]⟩
def checkI (m : ByteArray) : Int := if secR m = true then crcI (chkT ++ m) else -1
end Go.Proofs.YtnoefpkhbllmiaaGreatDoor
namespace Go.Proofs.YtnoefpkhbllmiaaGreatDoor
open Go.RowKit Go.PlainAid G
set_option linter.unusedVariables false
/-- The bytes a to z alone, up to a place. -/
def azTo (t : ByteArray) (k : Nat) : Bool := (List.range k).all fun i => decide (97 ≤ bt t i ∧ bt t i ≤ 122)
theorem azTo_zero (t : ByteArray) : azTo t 0 = true := rfl
theorem azTo_succ {t : ByteArray} {k : Nat} (h : azTo t k = true) (h1 : 97 ≤ bt t k) (h2 : bt t k ≤ 122) : azTo t (k + 1) = true := by
  unfold azTo at h ⊢
  rw [List.range_succ, List.all_append, h]
  simp [h1, h2]
theorem azTo_no {t : ByteArray} {k n : Nat} (hk : k < n) (h : ¬ (97 ≤ bt t k ∧ bt t k ≤ 122)) : azTo t n = false := by
  unfold azTo
  rw [List.all_eq_false]
  exact ⟨k, List.mem_range.2 hk, by simp only [decide_eq_true_eq]; exact h⟩
def wordB (t : ByteArray) : Bool := decide (1 ≤ t.size ∧ t.size ≤ 8) && azTo t t.size
theorem wordB_no {t : ByteArray} {k : Nat} (hk : k < t.size) (h : ¬ (97 ≤ bt t k ∧ bt t k ≤ 122)) : wordB t = false := by unfold wordB; rw [azTo_no hk h, Bool.and_false]
theorem wordB_size {t : ByteArray} (h : wordB t = true) : 1 ≤ t.size ∧ t.size ≤ 8 := by unfold wordB at h; rw [Bool.and_eq_true, decide_eq_true_eq] at h; exact h.1
theorem wordB_at {t : ByteArray} (h : azTo t t.size = true) : wordB t = decide (1 ≤ t.size ∧ t.size ≤ 8) := by unfold wordB; rw [h, Bool.and_true]
def nums3B (g n m : Int) : Bool := decide (1 ≤ g ∧ g ≤ 999) && decide (1 ≤ n ∧ n ≤ 10) && decide (n ≤ m ∧ m ≤ 20)
def confB (g n m c : Int) : Bool := nums3B g n m && decide (0 ≤ c ∧ c ≤ 4294967295)
def termB (no : Int) (lk : ByteArray) : Bool := decide (1 ≤ no ∧ no ≤ 5) && secR lk
def itemB (nm : ByteArray) (tm : Int) (bd : ByteArray) : Bool := wordB nm && decide (1 ≤ tm ∧ tm ≤ 5) && decide (1 ≤ bd.size ∧ bd.size ≤ 20)
theorem confB_iff {g n m c : Int} : confB g n m c = true ↔ (1 ≤ g ∧ g ≤ 999) ∧ (1 ≤ n ∧ n ≤ 10) ∧ (n ≤ m ∧ m ≤ 20) ∧ (0 ≤ c ∧ c ≤ 4294967295) := by
  unfold confB nums3B
  simp only [Bool.and_eq_true, decide_eq_true_eq, and_assoc]
theorem termB_iff {no : Int} {lk : ByteArray} : termB no lk = true ↔ (1 ≤ no ∧ no ≤ 5) ∧ (1 ≤ lk.size ∧ lk.size ≤ 16) := by
  unfold termB
  rw [Bool.and_eq_true, decide_eq_true_eq, secR_iff]
theorem itemB_iff {nm : ByteArray} {tm : Int} {bd : ByteArray} : itemB nm tm bd = true ↔ wordB nm = true ∧ (1 ≤ tm ∧ tm ≤ 5) ∧ (1 ≤ bd.size ∧ bd.size ≤ 20) := by
  unfold itemB
  simp only [Bool.and_eq_true, decide_eq_true_eq, and_assoc]
/-- A text ahead of another. -/
def ltS (a b : ByteArray) : Bool := Op.bytesLess a.toList b.toList
theorem ltS_def (a b : ByteArray) : Op.bytesLess a.toList b.toList = ltS a b := rfl
theorem specWord_any (t : ByteArray) (w : World) (ht : t.size ≤ maxLen) :
    Calls Tryz.prog 59 #[.string t] w fun e w' => e = .returned (.bool (wordB t)) ∧ w = w' := by
  unfold maxLen at ht
  go_enter Tryz.func59, Tryz.ntmps59
  go_wp2_with fail
  go_loop [3] (fun i => ∃ k : Nat, k ≤ t.size ∧ i = .int .i64 k ∧ Hid (azTo t k = true)) (fun i => t.size - (intOf i).toNat)
  case atStart => exact ⟨0, Nat.zero_le _, rfl, Lib.hid (azTo_zero t)⟩
  case round =>
    obtain ⟨k, hk, rfl, HA⟩ := hrel
    by_cases hlt : k < t.size
    · have hb : ((t[k]'hlt).toNat : Int) = bt t k := by unfold bt; rw [dif_pos hlt]
      have HB := Lib.hid hb
      have hin : (k : Int) < (t.size : Int) := by omega
      by_cases h1 : 97 ≤ bt t k
      · by_cases h2 : bt t k ≤ 122
        · have HS := Lib.hid (azTo_succ HA.out h1 h2)
          have g1 : ¬ ((t[k]'hlt).toNat : Int) < 97 := by rw [hb]; omega
          have g2 : ¬ (122 : Int) < ((t[k]'hlt).toNat : Int) := by rw [hb]; omega
          clear hb h1 h2
          go_wp2_with fail
          go_round
          case rel => exact ⟨k + 1, by omega, by go_num, HS⟩
          case measure => simp [intOf]; omega
        · have HF := Lib.hid (wordB_no hlt (fun h => h2 h.2)).symm
          have g1 : ¬ ((t[k]'hlt).toNat : Int) < 97 := by rw [hb]; omega
          have g2 : (122 : Int) < ((t[k]'hlt).toNat : Int) := by rw [hb]; omega
          clear hb h1 h2
          go_wp2_with fail
          go_ret
          exact ⟨ret_bool HF.out, rfl⟩
      · have HF := Lib.hid (wordB_no hlt (fun h => h1 h.1)).symm
        have g1 : ((t[k]'hlt).toNat : Int) < 97 := by rw [hb]; omega
        clear hb h1
        go_wp2_with fail
        go_ret
        exact ⟨ret_bool HF.out, rfl⟩
    · obtain rfl : k = t.size := by omega
      have HW := Lib.hid (wordB_at HA.out)
      by_cases h1 : 1 ≤ t.size
      · by_cases h2 : t.size ≤ 8
        · have HF : Hid (true = wordB t) := Lib.hid (by rw [HW.out]; exact (decide_eq_true ⟨h1, h2⟩).symm)
          go_wp2_with fail
          go_ret
          exact ⟨ret_bool (by rw [← HF.out]; simp; omega), rfl⟩
        · have HF : Hid (false = wordB t) := Lib.hid (by rw [HW.out]; exact (decide_eq_false (by omega)).symm)
          go_wp2_with fail
          go_ret
          exact ⟨ret_bool (by rw [← HF.out]; simp; omega), rfl⟩
      · have HF : Hid (false = wordB t) := Lib.hid (by rw [HW.out]; exact (decide_eq_false (by omega)).symm)
        go_wp2_with fail
        go_ret
        exact ⟨ret_bool (by rw [← HF.out]; try (simp; omega)), rfl⟩
set_option maxRecDepth 100000 in
theorem l05NumsOk_any (g n m : Int) (w : World)  :
    Calls Tryz.prog 76 #[.int .i64 g, .int .i64 n, .int .i64 m] w fun e w' => e = .returned (.bool (nums3B g n m)) ∧ w = w' := by
  cases hg : decide (1 ≤ g ∧ g ≤ 999)
  · skip
    have HF : Hid (false = nums3B g n m) := Lib.hid (by unfold nums3B; simp only [hg, Bool.false_and, Bool.and_false, Bool.true_and, Bool.and_true, Bool.and_self])
    go_enter Tryz.func76, Tryz.ntmps76
    go_wp2_with ((go_at_call 36; refine (l02IsOk_any _ _ _ _).mono ?_; rintro e w1 ⟨rfl, rfl⟩; first | rw [hg] | rw [hn] | rw [hm]))
    go_ret
    exact ⟨ret_bool (by first | exact HF.out | (rw [← HF.out]; simp_all)), rfl⟩
  · skip
    cases hn : decide (1 ≤ n ∧ n ≤ 10)
    · skip
      have HF : Hid (false = nums3B g n m) := Lib.hid (by unfold nums3B; simp only [hg, hn, Bool.false_and, Bool.and_false, Bool.true_and, Bool.and_true, Bool.and_self])
      go_enter Tryz.func76, Tryz.ntmps76
      go_wp2_with ((go_at_call 36; refine (l02IsOk_any _ _ _ _).mono ?_; rintro e w1 ⟨rfl, rfl⟩; first | rw [hg] | rw [hn] | rw [hm]))
      go_ret
      exact ⟨ret_bool (by first | exact HF.out | (rw [← HF.out]; simp_all)), rfl⟩
    · skip
      cases hm : decide (n ≤ m ∧ m ≤ 20)
      · skip
        have HF : Hid (false = nums3B g n m) := Lib.hid (by unfold nums3B; simp only [hg, hn, hm, Bool.false_and, Bool.and_false, Bool.true_and, Bool.and_true, Bool.and_self])
        go_enter Tryz.func76, Tryz.ntmps76
        go_wp2_with ((go_at_call 36; refine (l02IsOk_any _ _ _ _).mono ?_; rintro e w1 ⟨rfl, rfl⟩; first | rw [hg] | rw [hn] | rw [hm]))
        go_ret
        exact ⟨ret_bool (by first | exact HF.out | (rw [← HF.out]; simp_all)), rfl⟩
      · skip
        have HF : Hid (true = nums3B g n m) := Lib.hid (by unfold nums3B; simp only [hg, hn, hm, Bool.false_and, Bool.and_false, Bool.true_and, Bool.and_true, Bool.and_self])
        go_enter Tryz.func76, Tryz.ntmps76
        go_wp2_with ((go_at_call 36; refine (l02IsOk_any _ _ _ _).mono ?_; rintro e w1 ⟨rfl, rfl⟩; first | rw [hg] | rw [hn] | rw [hm]))
        go_ret
        exact ⟨ret_bool (by first | exact HF.out | (rw [← HF.out]; simp_all)), rfl⟩
set_option maxRecDepth 100000 in
theorem l07Conf_any (g n m c : Int) (w : World)  :
    Calls Tryz.prog 56 #[.agg #[.int .i64 g, .int .i64 n, .int .i64 m, .int .i64 c]] w fun e w' => e = .returned (.bool (confB g n m c)) ∧ Below w.heap.size w w' := by
  have HB : Hid (Below w.heap.size w (w.alloc (.cells #[.int .i64 g, .int .i64 n, .int .i64 m, .int .i64 c] 28))) := Lib.hid ((Below.refl _ _).alloc (Nat.le_refl _) _)
  cases hn : nums3B g n m
  · skip
    have HF : Hid (false = confB g n m c) := Lib.hid (by unfold confB; simp only [hn, Bool.false_and, Bool.and_false, Bool.true_and, Bool.and_true, Bool.and_self])
    go_enter Tryz.func56, Tryz.ntmps56
    go_wp2_with (first | (go_at_call 76; refine (l05NumsOk_any _ _ _ _).mono ?_; rintro e w1 ⟨rfl, rfl⟩; rw [hn]) | (go_at_call 36; refine (l02IsOk_any _ _ _ _).mono ?_; rintro e w1 ⟨rfl, rfl⟩; first | rw [hc]))
    go_ret
    exact ⟨ret_bool (by first | exact HF.out | (rw [← HF.out]; simp_all)), HB.out⟩
  · skip
    cases hc : decide (0 ≤ c ∧ c ≤ 4294967295)
    · skip
      have HF : Hid (false = confB g n m c) := Lib.hid (by unfold confB; simp only [hn, hc, Bool.false_and, Bool.and_false, Bool.true_and, Bool.and_true, Bool.and_self])
      go_enter Tryz.func56, Tryz.ntmps56
      go_wp2_with (first | (go_at_call 76; refine (l05NumsOk_any _ _ _ _).mono ?_; rintro e w1 ⟨rfl, rfl⟩; rw [hn]) | (go_at_call 36; refine (l02IsOk_any _ _ _ _).mono ?_; rintro e w1 ⟨rfl, rfl⟩; first | rw [hc]))
      go_ret
      exact ⟨ret_bool (by first | exact HF.out | (rw [← HF.out]; simp_all)), HB.out⟩
    · skip
      have HF : Hid (true = confB g n m c) := Lib.hid (by unfold confB; simp only [hn, hc, Bool.false_and, Bool.and_false, Bool.true_and, Bool.and_true, Bool.and_self])
      go_enter Tryz.func56, Tryz.ntmps56
      go_wp2_with (first | (go_at_call 76; refine (l05NumsOk_any _ _ _ _).mono ?_; rintro e w1 ⟨rfl, rfl⟩; rw [hn]) | (go_at_call 36; refine (l02IsOk_any _ _ _ _).mono ?_; rintro e w1 ⟨rfl, rfl⟩; first | rw [hc]))
      go_ret
      exact ⟨ret_bool (by first | exact HF.out | (rw [← HF.out]; simp_all)), HB.out⟩
set_option maxRecDepth 100000 in
theorem l07Term_any (no : Int) (lk : ByteArray) (w : World) (ht : lk.size ≤ maxLen) :
    Calls Tryz.prog 57 #[.agg #[.int .i64 no, .string lk]] w fun e w' => e = .returned (.bool (termB no lk)) ∧ Below w.heap.size w w' := by
  have HT := Lib.hid ht
  clear ht
  have HB : Hid (Below w.heap.size w (w.alloc (.cells #[.int .i64 no, .string lk] 67))) := Lib.hid ((Below.refl _ _).alloc (Nat.le_refl _) _)
  cases hn : decide (1 ≤ no ∧ no ≤ 5)
  · skip
    have HF : Hid (false = termB no lk) := Lib.hid (by unfold termB; simp only [hn, Bool.false_and, Bool.and_false, Bool.true_and, Bool.and_true, Bool.and_self])
    go_enter Tryz.func57, Tryz.ntmps57
    go_wp2_with (first | (go_at_call 77; refine (l04SecretOk_any _ _ HT.out).mono ?_; rintro e w1 ⟨rfl, rfl⟩; rw [hs]) | (go_at_call 36; refine (l02IsOk_any _ _ _ _).mono ?_; rintro e w1 ⟨rfl, rfl⟩; first | rw [hn]))
    go_ret
    exact ⟨ret_bool (by first | exact HF.out | (rw [← HF.out]; simp_all)), HB.out⟩
  · skip
    cases hs : secR lk
    · skip
      have HF : Hid (false = termB no lk) := Lib.hid (by unfold termB; simp only [hn, hs, Bool.false_and, Bool.and_false, Bool.true_and, Bool.and_true, Bool.and_self])
      go_enter Tryz.func57, Tryz.ntmps57
      go_wp2_with (first | (go_at_call 77; refine (l04SecretOk_any _ _ HT.out).mono ?_; rintro e w1 ⟨rfl, rfl⟩; rw [hs]) | (go_at_call 36; refine (l02IsOk_any _ _ _ _).mono ?_; rintro e w1 ⟨rfl, rfl⟩; first | rw [hn]))
      go_ret
      exact ⟨ret_bool (by first | exact HF.out | (rw [← HF.out]; simp_all)), HB.out⟩
    · skip
      have HF : Hid (true = termB no lk) := Lib.hid (by unfold termB; simp only [hn, hs, Bool.false_and, Bool.and_false, Bool.true_and, Bool.and_true, Bool.and_self])
      go_enter Tryz.func57, Tryz.ntmps57
      go_wp2_with (first | (go_at_call 77; refine (l04SecretOk_any _ _ HT.out).mono ?_; rintro e w1 ⟨rfl, rfl⟩; rw [hs]) | (go_at_call 36; refine (l02IsOk_any _ _ _ _).mono ?_; rintro e w1 ⟨rfl, rfl⟩; first | rw [hn]))
      go_ret
      exact ⟨ret_bool (by first | exact HF.out | (rw [← HF.out]; simp_all)), HB.out⟩
set_option maxRecDepth 100000 in
theorem l07Item_any (nm : ByteArray) (tm : Int) (bd : ByteArray) (w : World) (hn : nm.size ≤ maxLen) (hb : bd.size ≤ maxLen) :
    Calls Tryz.prog 58 #[.agg #[.string nm, .int .i64 tm, .string bd]] w fun e w' => e = .returned (.bool (itemB nm tm bd)) ∧ Below w.heap.size w w' := by
  have HB : Hid (Below w.heap.size w (w.alloc (.cells #[.string nm, .int .i64 tm, .string bd] 69))) := Lib.hid ((Below.refl _ _).alloc (Nat.le_refl _) _)
  have HT := Lib.hid hn
  unfold maxLen at hb
  clear hn
  cases hw : wordB nm
  · have HF : Hid (false = itemB nm tm bd) := Lib.hid (by unfold itemB; rw [hw]; rfl)
    go_enter Tryz.func58, Tryz.ntmps58
    go_wp2_with (first | (go_at_call 59; refine (specWord_any _ _ HT.out).mono ?_; rintro e w1 ⟨rfl, rfl⟩; rw [hw]))
    go_ret
    exact ⟨ret_bool HF.out, HB.out⟩
  · cases ht : decide (1 ≤ tm ∧ tm ≤ 5)
    · have HF : Hid (false = itemB nm tm bd) := Lib.hid (by unfold itemB; rw [ht, Bool.and_false]; rfl)
      go_enter Tryz.func58, Tryz.ntmps58
      go_wp2_with (first | (go_at_call 59; refine (specWord_any _ _ HT.out).mono ?_; rintro e w1 ⟨rfl, rfl⟩; rw [hw]) | (go_at_call 36; refine (l02IsOk_any _ _ _ _).mono ?_; rintro e w1 ⟨rfl, rfl⟩; rw [ht]))
      go_ret
      exact ⟨ret_bool HF.out, HB.out⟩
    · have HF : Hid (decide (1 ≤ bd.size ∧ bd.size ≤ 20) = itemB nm tm bd) := Lib.hid (by unfold itemB; rw [hw, ht]; rfl)
      by_cases h1 : 1 ≤ bd.size
      · by_cases h2 : bd.size ≤ 20
        · go_enter Tryz.func58, Tryz.ntmps58
          go_wp2_with (first | (go_at_call 59; refine (specWord_any _ _ HT.out).mono ?_; rintro e w1 ⟨rfl, rfl⟩; rw [hw]) | (go_at_call 36; refine (l02IsOk_any _ _ _ _).mono ?_; rintro e w1 ⟨rfl, rfl⟩; rw [ht]))
          go_ret
          exact ⟨ret_bool (by rw [← HF.out]; simp [h1, h2]; omega), HB.out⟩
        · go_enter Tryz.func58, Tryz.ntmps58
          go_wp2_with (first | (go_at_call 59; refine (specWord_any _ _ HT.out).mono ?_; rintro e w1 ⟨rfl, rfl⟩; rw [hw]) | (go_at_call 36; refine (l02IsOk_any _ _ _ _).mono ?_; rintro e w1 ⟨rfl, rfl⟩; rw [ht]))
          go_ret
          exact ⟨ret_bool (by rw [← HF.out]; simp [h1, h2]; omega), HB.out⟩
      · go_enter Tryz.func58, Tryz.ntmps58
        go_wp2_with (first | (go_at_call 59; refine (specWord_any _ _ HT.out).mono ?_; rintro e w1 ⟨rfl, rfl⟩; rw [hw]) | (go_at_call 36; refine (l02IsOk_any _ _ _ _).mono ?_; rintro e w1 ⟨rfl, rfl⟩; rw [ht]))
        go_ret
        exact ⟨ret_bool (by rw [← HF.out]; simp [h1]), HB.out⟩
end Go.Proofs.YtnoefpkhbllmiaaGreatDoor
