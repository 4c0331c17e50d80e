/- Polynomials as rows of int64. Nothing of the program stands here. -/
import Derived.Test.YtfplfkebamgniaaMPoly
import Derived.Test.YtfplfkebamgniaaMGF3
import Derived.Test.YtfplfkebamgniaaRow
namespace Go.Proofs.Ytfplfkebamgniaa.MGF
def byteB (n : Int) : Bool := decide (0 ≤ n ∧ n ≤ 255)
def pv (p : List B) : List Int := p.map bi
theorem pv_length (p : List B) : (pv p).length = p.length := by simp [pv]
theorem pv_getD (p : List B) (i : Nat) : (pv p).getD i 0 = bi (cf p i) := by
  unfold pv cf
  rw [List.getD_eq_getElem?_getD, List.getElem?_map, List.getD_eq_getElem?_getD]
  cases p[i]? with
  | none => rfl
  | some a => rfl
theorem pv_inj {p q : List B} (h : pv p = pv q) : p = q := List.map_inj_right (fun _ _ => bi_inj) |>.1 h
theorem bi_zero_iff (x : B) : (bi x == 0) = decide (x = 0) := by
  by_cases h : x = 0
  · subst h; rfl
  · rw [decide_eq_false h, beq_eq_false_iff_ne]
    exact fun h2 => h (bi_inj (h2.trans bi_zero.symm))
def rightB (zs : List Int) : Bool := decide (zs.length ≤ 60) && (zs.all byteB && (decide (zs.length = 0) || !(zs.getD (zs.length - 1) 0 == 0)))
theorem all_bytes {zs : List Int} (h : zs.all byteB = true) : ∃ p : List B, zs = pv p := by
  refine ⟨zs.map ib, ?_⟩
  unfold pv
  rw [List.map_map]
  have : zs.map (bi ∘ ib) = zs.map id := List.map_congr_left (fun z hz => by
    have := List.all_eq_true.1 h z hz
    unfold byteB at this
    have := of_decide_eq_true this
    exact bi_ib this.1 this.2)
  rw [this, List.map_id]
theorem rightB_pv (p : List B) : rightB (pv p) = true ↔ p.length ≤ 60 ∧ Right p := by
  have hall : (pv p).all byteB = true := by
    rw [List.all_eq_true]
    intro z hz
    obtain ⟨x, _, rfl⟩ := List.mem_map.1 hz
    exact decide_eq_true (bi_range x)
  unfold rightB
  rw [hall, pv_length, pv_getD, Bool.and_eq_true, Bool.and_eq_true, Bool.or_eq_true, bi_zero_iff]
  by_cases hp : p = []
  · subst hp
    simp [Right]
  · have hl : p.length ≠ 0 := by simpa using hp
    have hlast : cf p (p.length - 1) = p.getLast hp := by
      unfold cf
      rw [List.getLast_eq_getElem, List.getD_eq_getElem?_getD, List.getElem?_eq_getElem (by omega)]
      rfl
    rw [hlast]
    simp only [decide_eq_true_eq, true_and, Bool.not_eq_true', decide_eq_false_iff_not]
    constructor
    · rintro ⟨h1, h2 | h2⟩
      · exact absurd h2 hl
      · exact ⟨h1, fun _ => h2⟩
    · rintro ⟨h1, h2⟩
      exact ⟨h1, Or.inr (h2 hp)⟩
theorem rightB_iff (zs : List Int) : rightB zs = true ↔ ∃ p : List B, zs = pv p ∧ p.length ≤ 60 ∧ Right p := by
  constructor
  · intro h
    have h2 := h
    unfold rightB at h
    rw [Bool.and_eq_true, Bool.and_eq_true] at h
    obtain ⟨p, rfl⟩ := all_bytes h.2.1
    exact ⟨p, rfl, (rightB_pv p).1 h2⟩
  · rintro ⟨p, rfl, h⟩
    exact (rightB_pv p).2 h
theorem pv_take (p : List B) (k : Nat) : (pv p).take k = pv (p.take k) := by unfold pv; rw [List.map_take]
/-- Where the trimming stops. -/
theorem trim_take {p : List B} {j : Nat} (hj : j ≤ p.length) (hz : ∀ i, j ≤ i → cf p i = 0) (hl : j = 0 ∨ cf p (j - 1) ≠ 0) : trim p = p.take j := by
  refine right_eq (trim_right p) (fun h => ?_) ((trim_same p).trans (fun i => ?_))
  · have h0 : j ≠ 0 := by rintro rfl; exact h rfl
    rw [List.getLast_eq_getElem, List.getElem_take]
    rcases hl with h1 | h1
    · exact absurd h1 h0
    · unfold cf at h1
      rw [List.getD_eq_getElem?_getD, List.getElem?_eq_getElem (by omega)] at h1
      have : min j p.length = j := by omega
      simpa [List.length_take, this] using h1
  · by_cases hi : i < j
    · unfold cf
      simp [List.getD_eq_getElem?_getD, hi]
    · rw [hz i (by omega)]
      exact (cf_past (by rw [List.length_take]; omega)).symm
/-- A list told by its places. -/
def fl (f : Nat → Int) (n : Nat) : List Int := (List.range n).map f
theorem fl_length (f : Nat → Int) (n : Nat) : (fl f n).length = n := by simp [fl]
theorem fl_getD (f : Nat → Int) {n i : Nat} (h : i < n) : (fl f n).getD i 0 = f i := by simp [fl, List.getD, h]
theorem fl_set (f : Nat → Int) (n k : Nat) (z : Int) : (fl f n).set k z = fl (fun i => if i = k then z else f i) n := by
  apply List.ext_getElem
  · simp [fl]
  · intro i h1 h2
    simp only [List.getElem_set, fl, List.getElem_map, List.getElem_range]
    by_cases h : k = i
    · rw [if_pos h, if_pos h.symm]
    · rw [if_neg h, if_neg (fun h2 => h h2.symm)]
theorem fl_congr {f g : Nat → Int} {n : Nat} (h : ∀ i, i < n → f i = g i) : fl f n = fl g n := List.map_congr_left (fun i hi => h i (List.mem_range.1 hi))
theorem fl_zero (n : Nat) : List.replicate n (0 : Int) = fl (fun _ => 0) n := by
  apply List.ext_getElem
  · simp [fl]
  · intro i h1 h2; simp [fl]
theorem pv_fl (p : List B) : pv p = fl (fun i => bi (cf p i)) p.length := by
  apply List.ext_getElem
  · simp [fl, pv]
  · intro i h1 h2
    have h3 : i < p.length := by simpa [pv] using h1
    simp [fl, pv, cf, List.getD, h3]
/-- One more of the first factor's bytes. -/
theorem cf_mulP_take (p q : List B) : ∀ (i t : Nat), i < p.length → cf (mulP (p.take (i + 1)) q) t = cf (mulP (p.take i) q) t ^^^ (if i ≤ t then mul (cf p i) (cf q (t - i)) else 0) := by
  induction p with
  | nil => intro i t h; simp at h
  | cons c p ih =>
    intro i t h
    cases i with
    | zero =>
      rw [List.take_succ_cons, List.take_zero, List.take_zero, mulP, mulP, cf_addP, cf_scale, cf_zero, cf_nil, zxor, if_pos (Nat.zero_le t), Nat.sub_zero]
      cases t with
      | zero => rw [cf_zero, xor0]
      | succ t => rw [cf_succ, mulP, cf_nil, xor0]
    | succ i =>
      rw [List.take_succ_cons, List.take_succ_cons, mulP, mulP, cf_addP, cf_addP, cf_succ]
      cases t with
      | zero => rw [cf_zero, cf_zero, if_neg (by omega), xor0, xor0]
      | succ t =>
        rw [cf_succ, cf_succ, ih i t (by simp at h; omega), ← BitVec.xor_assoc, show t + 1 - (i + 1) = t - i by omega]
        by_cases hit : i ≤ t
        · rw [if_pos hit, if_pos (by omega)]
        · rw [if_neg hit, if_neg (by omega)]
theorem mulP_take_all (p q : List B) : mulP (p.take p.length) q = mulP p q := by rw [List.take_length]
/-- A product is as long as both together, less one. -/
theorem cf_mulP_past (p q : List B) : ∀ (t : Nat), p.length + q.length ≤ t + 1 → cf (mulP p q) t = 0 := by
  induction p with
  | nil => intro t _; rw [mulP, cf_nil]
  | cons c p ih =>
    intro t h
    rw [mulP, cf_addP, cf_scale]
    have h1 : cf q t = 0 := cf_past (by simp at h; omega)
    rw [h1, mul_zero, zxor]
    cases t with
    | zero => rw [cf_zero]
    | succ t => rw [cf_succ]; exact ih t (by simp at h; omega)
theorem fl_pv_same {p : List B} {n : Nat} : ∃ q : List B, fl (fun i => bi (cf p i)) n = pv q ∧ q.length = n ∧ ∀ i, i < n → cf q i = cf p i := by
  refine ⟨(List.range n).map (cf p), ?_, by simp, fun i hi => ?_⟩
  · unfold fl pv; rw [List.map_map]; rfl
  · simp [cf, List.getD, hi]
theorem ev_drop {p : List B} {j : Nat} (h : j < p.length) (x : B) : ev (p.drop j) x = mul (ev (p.drop (j + 1)) x) x ^^^ cf p j := by
  rw [List.drop_eq_getElem_cons h, ev_cons, mul_comm, BitVec.xor_comm]
  congr 1
  unfold cf
  rw [List.getD_eq_getElem?_getD, List.getElem?_eq_getElem h]
  rfl
theorem trim_mul_nil (p : List B) : trim (mulP p []) = [] := by
  have h : Same (mulP p []) [] := by
    intro t
    rw [cf_nil]
    induction p generalizing t with
    | nil => rw [mulP, cf_nil]
    | cons c p ih =>
      rw [mulP, cf_addP, cf_scale, cf_nil, mul_zero, zxor]
      cases t with
      | zero => rw [cf_zero]
      | succ t => rw [cf_succ]; exact ih t
  rw [trim_eq h]
  rfl
/-- A place of a product in the making. -/
def mid (p q : List B) (i k t : Nat) : B := cf (mulP (p.take i) q) t ^^^ (if i ≤ t ∧ t < i + k then mul (cf p i) (cf q (t - i)) else 0)
theorem mid_zero (p q : List B) (i t : Nat) : mid p q i 0 t = cf (mulP (p.take i) q) t := by
  unfold mid
  rw [if_neg (by omega), xor0]
theorem mid_at (p q : List B) (i k : Nat) : mid p q i k (i + k) = cf (mulP (p.take i) q) (i + k) := by
  unfold mid
  rw [if_neg (by omega), xor0]
theorem mid_next (p q : List B) (i k t : Nat) : (if t = i + k then mid p q i k (i + k) ^^^ mul (cf p i) (cf q k) else mid p q i k t) = mid p q i (k + 1) t := by
  by_cases h : t = i + k
  · subst h
    rw [if_pos rfl, mid_at]
    unfold mid
    rw [if_pos (by omega), show i + k - i = k by omega]
  · rw [if_neg h]
    unfold mid
    by_cases h2 : i ≤ t ∧ t < i + k
    · rw [if_pos h2, if_pos (by omega)]
    · rw [if_neg h2, if_neg (by omega)]
theorem mid_end {p q : List B} {i : Nat} (hi : i < p.length) (t : Nat) : mid p q i q.length t = cf (mulP (p.take (i + 1)) q) t := by
  rw [cf_mulP_take p q i t hi]
  unfold mid
  congr 1
  by_cases h : i ≤ t
  · rw [if_pos h]
    by_cases h2 : t < i + q.length
    · rw [if_pos ⟨h, h2⟩]
    · rw [if_neg (by omega), cf_past (p := q) (by omega), mul_zero]
  · rw [if_neg h, if_neg (by omega)]
theorem mul_made {p q : List B} {L : Nat} (hL : p.length + q.length = L + 1) : ∃ r : List B, fl (fun t => bi (cf (mulP p q) t)) L = pv r ∧ r.length = L ∧ trim r = trim (mulP p q) := by
  obtain ⟨r, h1, h2, h3⟩ := fl_pv_same (p := mulP p q) (n := L)
  refine ⟨r, h1, h2, trim_eq (fun i => ?_)⟩
  by_cases hi : i < L
  · exact h3 i hi
  · rw [cf_past (by omega), cf_mulP_past p q i (by omega)]
theorem length_mulP (p q : List B) : (mulP p q).length ≤ p.length + q.length := by
  induction p with
  | nil => simp [mulP]
  | cons c p ih =>
    rw [mulP, length_addP]
    simp only [scale, List.length_map, List.length_cons]
    omega
end Go.Proofs.Ytfplfkebamgniaa.MGF
