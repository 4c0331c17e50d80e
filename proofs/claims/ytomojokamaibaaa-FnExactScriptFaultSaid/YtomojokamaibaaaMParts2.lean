/- Polynomials as rows of int64. Nothing of the program stands here. -/
import Derived.Test.YtomojokamaibaaaMAlg
import Derived.Test.YtomojokamaibaaaGRow
import Derived.Laws.BytesArg
namespace Go.Proofs.Ytomojokamaibaaa.MGF
def byteB (n : Int) : Bool := decide (0 ≤ n ∧ n ≤ 255)
def pv (p : List B) : List Int := p.map bi
theorem pv_length (p : List B) : (pv p).length = p.length := by simp [pv]
theorem pv_getD (p : List B) (i : Nat) : (pv p).getD i 0 = bi (cf p i) := by
  unfold pv cf
  rw [List.getD_eq_getElem?_getD, List.getElem?_map, List.getD_eq_getElem?_getD]
  cases p[i]? with
  | none => rfl
  | some a => rfl
theorem pv_inj {p q : List B} (h : pv p = pv q) : p = q := List.map_inj_right (fun _ _ => bi_inj) |>.1 h
theorem bi_zero_iff (x : B) : (bi x == 0) = decide (x = 0) := by
  by_cases h : x = 0
  · subst h; rfl
  · rw [decide_eq_false h, beq_eq_false_iff_ne]
    exact fun h2 => h (bi_inj (h2.trans bi_zero.symm))
def rightB (zs : List Int) : Bool := decide (zs.length ≤ 60) && (zs.all byteB && (decide (zs.length = 0) || !(zs.getD (zs.length - 1) 0 == 0)))
theorem all_bytes {zs : List Int} (h : zs.all byteB = true) : ∃ p : List B, zs = pv p := by
  refine ⟨zs.map ib, ?_⟩
  unfold pv
  rw [List.map_map]
  have : zs.map (bi ∘ ib) = zs.map id := List.map_congr_left (fun z hz => by
    have := List.all_eq_true.1 h z hz
    unfold byteB at this
    have := of_decide_eq_true this
    exact bi_ib this.1 this.2)
  rw [this, List.map_id]
theorem rightB_pv (p : List B) : rightB (pv p) = true ↔ p.length ≤ 60 ∧ Right p := by
  have hall : (pv p).all byteB = true := by
    rw [List.all_eq_true]
    intro z hz
    obtain ⟨x, _, rfl⟩ := List.mem_map.1 hz
    exact decide_eq_true (bi_range x)
  unfold rightB
  rw [hall, pv_length, pv_getD, Bool.and_eq_true, Bool.and_eq_true, Bool.or_eq_true, bi_zero_iff]
  by_cases hp : p = []
  · subst hp
    simp [Right]
  · have hl : p.length ≠ 0 := by simpa using hp
    have hlast : cf p (p.length - 1) = p.getLast hp := by
      unfold cf
      rw [List.getLast_eq_getElem, List.getD_eq_getElem?_getD, List.getElem?_eq_getElem (by omega)]
      rfl
    rw [hlast]
    simp only [decide_eq_true_eq, true_and, Bool.not_eq_true', decide_eq_false_iff_not]
    constructor
    · rintro ⟨h1, h2 | h2⟩
      · exact absurd h2 hl
      · exact ⟨h1, fun _ => h2⟩
    · rintro ⟨h1, h2⟩
      exact ⟨h1, Or.inr (h2 hp)⟩
theorem rightB_iff (zs : List Int) : rightB zs = true ↔ ∃ p : List B, zs = pv p ∧ p.length ≤ 60 ∧ Right p := by
  constructor
  · intro h
    have h2 := h
    unfold rightB at h
    rw [Bool.and_eq_true, Bool.and_eq_true] at h
    obtain ⟨p, rfl⟩ := all_bytes h.2.1
    exact ⟨p, rfl, (rightB_pv p).1 h2⟩
  · rintro ⟨p, rfl, h⟩
    exact (rightB_pv p).2 h
theorem pv_take (p : List B) (k : Nat) : (pv p).take k = pv (p.take k) := by unfold pv; rw [List.map_take]
/-- Where the trimming stops. -/
theorem trim_take {p : List B} {j : Nat} (hj : j ≤ p.length) (hz : ∀ i, j ≤ i → cf p i = 0) (hl : j = 0 ∨ cf p (j - 1) ≠ 0) : trim p = p.take j := by
  refine right_eq (trim_right p) (fun h => ?_) ((trim_same p).trans (fun i => ?_))
  · have h0 : j ≠ 0 := by rintro rfl; exact h rfl
    rw [List.getLast_eq_getElem, List.getElem_take]
    rcases hl with h1 | h1
    · exact absurd h1 h0
    · unfold cf at h1
      rw [List.getD_eq_getElem?_getD, List.getElem?_eq_getElem (by omega)] at h1
      have : min j p.length = j := by omega
      simpa [List.length_take, this] using h1
  · by_cases hi : i < j
    · unfold cf
      simp [List.getD_eq_getElem?_getD, hi]
    · rw [hz i (by omega)]
      exact (cf_past (by rw [List.length_take]; omega)).symm
/-- A list told by its places. -/
def fl (f : Nat → Int) (n : Nat) : List Int := (List.range n).map f
theorem fl_length (f : Nat → Int) (n : Nat) : (fl f n).length = n := by simp [fl]
theorem fl_getD (f : Nat → Int) {n i : Nat} (h : i < n) : (fl f n).getD i 0 = f i := by simp [fl, List.getD, h]
theorem fl_set (f : Nat → Int) (n k : Nat) (z : Int) : (fl f n).set k z = fl (fun i => if i = k then z else f i) n := by
  apply List.ext_getElem
  · simp [fl]
  · intro i h1 h2
    simp only [List.getElem_set, fl, List.getElem_map, List.getElem_range]
    by_cases h : k = i
    · rw [if_pos h, if_pos h.symm]
    · rw [if_neg h, if_neg (fun h2 => h h2.symm)]
theorem fl_congr {f g : Nat → Int} {n : Nat} (h : ∀ i, i < n → f i = g i) : fl f n = fl g n := List.map_congr_left (fun i hi => h i (List.mem_range.1 hi))
theorem fl_zero (n : Nat) : List.replicate n (0 : Int) = fl (fun _ => 0) n := by
  apply List.ext_getElem
  · simp [fl]
  · intro i h1 h2; simp [fl]
theorem pv_fl (p : List B) : pv p = fl (fun i => bi (cf p i)) p.length := by
  apply List.ext_getElem
  · simp [fl, pv]
  · intro i h1 h2
    have h3 : i < p.length := by simpa [pv] using h1
    simp [fl, pv, cf, List.getD, h3]
/-- One more of the first factor's bytes. -/
theorem cf_mulP_take (p q : List B) : ∀ (i t : Nat), i < p.length → cf (mulP (p.take (i + 1)) q) t = cf (mulP (p.take i) q) t ^^^ (if i ≤ t then mul (cf p i) (cf q (t - i)) else 0) := by
  induction p with
  | nil => intro i t h; simp at h
  | cons c p ih =>
    intro i t h
    cases i with
    | zero =>
      rw [List.take_succ_cons, List.take_zero, List.take_zero, mulP, mulP, cf_addP, cf_scale, cf_zero, cf_nil, zxor, if_pos (Nat.zero_le t), Nat.sub_zero]
      cases t with
      | zero => rw [cf_zero, xor0]
      | succ t => rw [cf_succ, mulP, cf_nil, xor0]
    | succ i =>
      rw [List.take_succ_cons, List.take_succ_cons, mulP, mulP, cf_addP, cf_addP, cf_succ]
      cases t with
      | zero => rw [cf_zero, cf_zero, if_neg (by omega), xor0, xor0]
      | succ t =>
        rw [cf_succ, cf_succ, ih i t (by simp at h; omega), ← BitVec.xor_assoc, show t + 1 - (i + 1) = t - i by omega]
        by_cases hit : i ≤ t
        · rw [if_pos hit, if_pos (by omega)]
        · rw [if_neg hit, if_neg (by omega)]
theorem mulP_take_all (p q : List B) : mulP (p.take p.length) q = mulP p q := by rw [List.take_length]
/-- A product is as long as both together, less one. -/
theorem cf_mulP_past (p q : List B) : ∀ (t : Nat), p.length + q.length ≤ t + 1 → cf (mulP p q) t = 0 := by
  induction p with
  | nil => intro t _; rw [mulP, cf_nil]
  | cons c p ih =>
    intro t h
    rw [mulP, cf_addP, cf_scale]
    have h1 : cf q t = 0 := cf_past (by simp at h; omega)
    rw [h1, mul_zero, zxor]
    cases t with
    | zero => rw [cf_zero]
    | succ t => rw [cf_succ]; exact ih t (by simp at h; omega)
theorem fl_pv_same {p : List B} {n : Nat} : ∃ q : List B, fl (fun i => bi (cf p i)) n = pv q ∧ q.length = n ∧ ∀ i, i < n → cf q i = cf p i := by
  refine ⟨(List.range n).map (cf p), ?_, by simp, fun i hi => ?_⟩
  · unfold fl pv; rw [List.map_map]; rfl
  · simp [cf, List.getD, hi]
theorem ev_drop {p : List B} {j : Nat} (h : j < p.length) (x : B) : ev (p.drop j) x = mul (ev (p.drop (j + 1)) x) x ^^^ cf p j := by
  rw [List.drop_eq_getElem_cons h, ev_cons, mul_comm, BitVec.xor_comm]
  congr 1
  unfold cf
  rw [List.getD_eq_getElem?_getD, List.getElem?_eq_getElem h]
  rfl
theorem trim_mul_nil (p : List B) : trim (mulP p []) = [] := by
  have h : Same (mulP p []) [] := by
    intro t
    rw [cf_nil]
    induction p generalizing t with
    | nil => rw [mulP, cf_nil]
    | cons c p ih =>
      rw [mulP, cf_addP, cf_scale, cf_nil, mul_zero, zxor]
      cases t with
      | zero => rw [cf_zero]
      | succ t => rw [cf_succ]; exact ih t
  rw [trim_eq h]
  rfl
/-- A place of a product in the making. -/
def mid (p q : List B) (i k t : Nat) : B := cf (mulP (p.take i) q) t ^^^ (if i ≤ t ∧ t < i + k then mul (cf p i) (cf q (t - i)) else 0)
theorem mid_zero (p q : List B) (i t : Nat) : mid p q i 0 t = cf (mulP (p.take i) q) t := by
  unfold mid
  rw [if_neg (by omega), xor0]
theorem mid_at (p q : List B) (i k : Nat) : mid p q i k (i + k) = cf (mulP (p.take i) q) (i + k) := by
  unfold mid
  rw [if_neg (by omega), xor0]
theorem mid_next (p q : List B) (i k t : Nat) : (if t = i + k then mid p q i k (i + k) ^^^ mul (cf p i) (cf q k) else mid p q i k t) = mid p q i (k + 1) t := by
  by_cases h : t = i + k
  · subst h
    rw [if_pos rfl, mid_at]
    unfold mid
    rw [if_pos (by omega), show i + k - i = k by omega]
  · rw [if_neg h]
    unfold mid
    by_cases h2 : i ≤ t ∧ t < i + k
    · rw [if_pos h2, if_pos (by omega)]
    · rw [if_neg h2, if_neg (by omega)]
theorem mid_end {p q : List B} {i : Nat} (hi : i < p.length) (t : Nat) : mid p q i q.length t = cf (mulP (p.take (i + 1)) q) t := by
  rw [cf_mulP_take p q i t hi]
  unfold mid
  congr 1
  by_cases h : i ≤ t
  · rw [if_pos h]
    by_cases h2 : t < i + q.length
    · rw [if_pos ⟨h, h2⟩]
    · rw [if_neg (by omega), cf_past (p := q) (by omega), mul_zero]
  · rw [if_neg h, if_neg (by omega)]
theorem mul_made {p q : List B} {L : Nat} (hL : p.length + q.length = L + 1) : ∃ r : List B, fl (fun t => bi (cf (mulP p q) t)) L = pv r ∧ r.length = L ∧ trim r = trim (mulP p q) := by
  obtain ⟨r, h1, h2, h3⟩ := fl_pv_same (p := mulP p q) (n := L)
  refine ⟨r, h1, h2, trim_eq (fun i => ?_)⟩
  by_cases hi : i < L
  · exact h3 i hi
  · rw [cf_past (by omega), cf_mulP_past p q i (by omega)]
theorem length_mulP (p q : List B) : (mulP p q).length ≤ p.length + q.length := by
  induction p with
  | nil => simp [mulP]
  | cons c p ih =>
    rw [mulP, length_addP]
    simp only [scale, List.length_map, List.length_cons]
    omega
end Go.Proofs.Ytomojokamaibaaa.MGF
/- Points as rows of structs, and what is through them. Nothing of the program stands here. -/
namespace Go.Proofs.Ytomojokamaibaaa.IRow
open Go.RowKit
/-- A row of pairs of int64 that can be read. -/
structure PR (w : World) (a : Option Addr) (n cap : Nat) (ps : List (Int × Int)) : Prop where
  len : ps.length = n
  le : n ≤ cap
  nil : a = none → cap = 0
  cells : 0 < n → ∃ g o, a = some ⟨g, o, none⟩ ∧ g < w.heap.size ∧ ∀ i, i < n → w.cell? ⟨g, o + i * 2, none⟩ = some (.int .i64 (ps.getD i (0, 0)).1) ∧ w.cell? ⟨g, o + i * 2 + 1, none⟩ = some (.int .i64 (ps.getD i (0, 0)).2)
theorem PR.below {w w' : World} {a : Option Addr} {n cap : Nat} {ps : List (Int × Int)} (h : PR w a n cap ps) (hb : Below w.heap.size w w') : PR w' a n cap ps := by
  refine ⟨h.len, h.le, h.nil, fun hn => ?_⟩
  obtain ⟨g, o, ha, hg, hc⟩ := h.cells hn
  exact ⟨g, o, ha, Nat.lt_of_lt_of_le hg hb.size, fun i hi => ⟨(hb.cell (p := ⟨g, o + i * 2, .none⟩) hg).trans (hc i hi).1, (hb.cell (p := ⟨g, o + i * 2 + 1, .none⟩) hg).trans (hc i hi).2⟩⟩
end Go.Proofs.Ytomojokamaibaaa.IRow
namespace Go.Proofs.Ytomojokamaibaaa.MGF
def okP (p : Int × Int) : Bool := byteB p.1 && byteB p.2
def pointsB (ps : List (Int × Int)) : Bool := decide (1 ≤ ps.length) && (decide (ps.length ≤ 20) && (ps.all okP && decide (ps.map Prod.fst).Nodup))
theorem getD_mem {α : Type} {l : List α} {i : Nat} (d : α) (h : i < l.length) : l.getD i d = l[i] := by simp [List.getD, h]
theorem nodup_take {ps : List (Int × Int)} {j : Nat} (hj : j < ps.length) (h : ((ps.take j).map Prod.fst).Nodup) (hk : ∀ k, k < j → (ps.getD k (0, 0)).1 ≠ (ps.getD j (0, 0)).1) : ((ps.take (j + 1)).map Prod.fst).Nodup := by
  have e : ps.take (j + 1) = ps.take j ++ [ps[j]] := (List.take_append_getElem hj).symm
  rw [e, List.map_append, List.nodup_append]
  refine ⟨h, by simp, fun a ha b hb => ?_⟩
  obtain ⟨p, hp, rfl⟩ := List.mem_map.1 ha
  obtain ⟨k, hkl, rfl⟩ := List.getElem_of_mem hp
  simp only [List.map_cons, List.map_nil, List.mem_singleton] at hb
  subst hb
  have hkj : k < j := by rw [List.length_take] at hkl; omega
  have := hk k hkj
  rw [getD_mem _ (by omega), getD_mem _ hj] at this
  rw [List.getElem_take]
  exact this
theorem not_nodup {ps : List (Int × Int)} {k j : Nat} (hj : j < ps.length) (hk : k < j) (h : (ps.getD k (0, 0)).1 = (ps.getD j (0, 0)).1) : ¬ (ps.map Prod.fst).Nodup := by
  intro hn
  rw [getD_mem _ (by omega), getD_mem _ hj] at h
  have hp := List.pairwise_iff_getElem.1 hn k j (by simp; omega) (by simpa using hj) hk
  simp only [List.getElem_map] at hp
  exact hp h
theorem not_all {ps : List (Int × Int)} {j : Nat} (hj : j < ps.length) (h : okP (ps.getD j (0, 0)) = false) : ps.all okP = false := by
  rw [List.all_eq_false]
  exact ⟨ps.getD j (0, 0), by rw [getD_mem _ hj]; exact List.getElem_mem _, by rw [h]; exact Bool.false_ne_true⟩
theorem all_of {ps : List (Int × Int)} (h : ∀ t, t < ps.length → okP (ps.getD t (0, 0)) = true) : ps.all okP = true := by
  rw [List.all_eq_true]
  intro p hp
  obtain ⟨t, ht, rfl⟩ := List.getElem_of_mem hp
  have := h t ht
  rwa [getD_mem _ ht] at this
/-- Points of bytes. -/
def pp (qs : List (B × B)) : List (Int × Int) := qs.map fun q => (bi q.1, bi q.2)
theorem pp_length (qs : List (B × B)) : (pp qs).length = qs.length := by simp [pp]
theorem pp_getD (qs : List (B × B)) (i : Nat) : (pp qs).getD i (0, 0) = (bi (qs.getD i (0, 0)).1, bi (qs.getD i (0, 0)).2) := by
  unfold pp
  rw [List.getD_eq_getElem?_getD, List.getElem?_map, List.getD_eq_getElem?_getD]
  cases qs[i]? with
  | none => rfl
  | some a => rfl
def px (qs : List (B × B)) (i : Nat) : B := (qs.getD i (0, 0)).1
def py (qs : List (B × B)) (i : Nat) : B := (qs.getD i (0, 0)).2
def xsOf (qs : List (B × B)) : List B := qs.map Prod.fst
theorem xsOf_getElem {qs : List (B × B)} {i : Nat} (h : i < qs.length) : (xsOf qs)[i]'(by simpa [xsOf] using h) = px qs i := by
  unfold px xsOf
  rw [getD_mem _ h]
  simp
theorem px_ne {qs : List (B × B)} (h : (xsOf qs).Nodup) {i k : Nat} (hi : i < qs.length) (hk : k < qs.length) (hne : i ≠ k) : px qs i ≠ px qs k := by
  rw [← xsOf_getElem hi, ← xsOf_getElem hk]
  intro h2
  have hp := List.pairwise_iff_getElem.1 h
  rcases Nat.lt_or_gt_of_ne hne with h3 | h3
  · exact hp i k (by simpa [xsOf] using hi) (by simpa [xsOf] using hk) h3 h2
  · exact hp k i (by simpa [xsOf] using hk) (by simpa [xsOf] using hi) h3 h2.symm
theorem pointsB_iff (ps : List (Int × Int)) : pointsB ps = true ↔ ∃ qs : List (B × B), ps = pp qs ∧ 1 ≤ qs.length ∧ qs.length ≤ 20 ∧ (xsOf qs).Nodup := by
  have hx : ∀ qs : List (B × B), ((pp qs).map Prod.fst) = (xsOf qs).map bi := fun qs => by unfold pp xsOf; rw [List.map_map, List.map_map]; rfl
  constructor
  · intro h
    unfold pointsB at h
    rw [Bool.and_eq_true, Bool.and_eq_true, Bool.and_eq_true] at h
    obtain ⟨h1, h2, h3, h4⟩ := h
    have e : ps = pp (ps.map fun p => (ib p.1, ib p.2)) := by
      unfold pp
      rw [List.map_map]
      have : ps.map ((fun q : B × B => (bi q.1, bi q.2)) ∘ fun p : Int × Int => (ib p.1, ib p.2)) = ps.map id := List.map_congr_left (fun p hp => by
        have := List.all_eq_true.1 h3 p hp
        unfold okP byteB at this
        rw [Bool.and_eq_true] at this
        have h5 := of_decide_eq_true this.1
        have h6 := of_decide_eq_true this.2
        show (bi (ib p.1), bi (ib p.2)) = p
        rw [bi_ib h5.1 h5.2, bi_ib h6.1 h6.2])
      rw [this, List.map_id]
    refine ⟨_, e, ?_, ?_, ?_⟩
    · rw [List.length_map]; exact of_decide_eq_true h1
    · rw [List.length_map]; exact of_decide_eq_true h2
    · have h7 := of_decide_eq_true h4
      rw [e, hx] at h7
      exact (List.pairwise_map.1 h7).imp (fun {a b} h h2 => h (congrArg bi h2))
  · rintro ⟨qs, rfl, h1, h2, h3⟩
    unfold pointsB
    rw [pp_length, decide_eq_true h1, decide_eq_true h2, hx]
    have h4 : ((xsOf qs).map bi).Nodup := (List.pairwise_map.2 (h3.imp (fun {a b} h h2 => h (bi_inj h2))))
    rw [decide_eq_true h4]
    have h5 : (pp qs).all okP = true := by
      rw [List.all_eq_true]
      intro p hp
      obtain ⟨q, _, rfl⟩ := List.mem_map.1 hp
      unfold okP byteB
      rw [decide_eq_true (bi_range q.1), decide_eq_true (bi_range q.2)]
      rfl
    rw [h5]
    rfl
def lagD (qs : List (B × B)) (i k : Nat) : B := inv (px qs i ^^^ px qs k)
def lagF (qs : List (B × B)) (i k : Nat) : List B := trim [mul (px qs k) (lagD qs i k), lagD qs i k]
/-- The i-th of the polynomials that are 1 at one place and 0 at the others, in the making. -/
def lagK (qs : List (B × B)) (i : Nat) : Nat → List B
  | 0 => [1]
  | k + 1 => if k = i then lagK qs i k else trim (mulP (lagK qs i k) (lagF qs i k))
def thrS (qs : List (B × B)) : Nat → List B
  | 0 => []
  | i + 1 => trim (addP (thrS qs i) (trim (mulP (lagK qs i qs.length) (trim [py qs i]))))
theorem trim_short {p : List B} {m : Nat} (h : ∀ i, m ≤ i → cf p i = 0) : (trim p).length ≤ m := by
  by_cases hp : trim p = []
  · rw [hp]; exact Nat.zero_le _
  · have h1 := right_last (trim_right p) hp
    rw [trim_same p] at h1
    by_cases hm : (trim p).length ≤ m
    · exact hm
    · exact absurd (h _ (by omega)) h1
theorem length_trim_mul (p q : List B) : (trim (mulP p q)).length ≤ p.length + q.length - 1 := by
  by_cases h : p.length + q.length = 0
  · have hp : p = [] := List.eq_nil_of_length_eq_zero (by omega)
    subst hp
    exact Nat.zero_le _
  · exact trim_short (fun i hi => cf_mulP_past p q i (by omega))
theorem lagF_length (qs : List (B × B)) (i k : Nat) : (lagF qs i k).length ≤ 2 := length_trim _
theorem lagK_length (qs : List (B × B)) (i : Nat) : ∀ k, (lagK qs i k).length ≤ k + 1
  | 0 => Nat.le_refl _
  | k + 1 => by
    have ih := lagK_length qs i k
    rw [lagK]
    split
    · omega
    · have := length_trim_mul (lagK qs i k) (lagF qs i k)
      have := lagF_length qs i k
      omega
/-- One less, where the place itself is passed. -/
theorem lagK_length' (qs : List (B × B)) (i : Nat) : ∀ k, i < k → (lagK qs i k).length ≤ k
  | 0, h => absurd h (Nat.not_lt_zero _)
  | k + 1, h => by
    rw [lagK]
    split
    · rename_i hk; exact lagK_length qs i k
    · rename_i hk
      have ih := lagK_length' qs i k (by omega)
      have := length_trim_mul (lagK qs i k) (lagF qs i k)
      have := lagF_length qs i k
      omega
theorem term_length (qs : List (B × B)) {i : Nat} (h : i < qs.length) : (trim (mulP (lagK qs i qs.length) (trim [py qs i]))).length ≤ qs.length := by
  have h1 := length_trim_mul (lagK qs i qs.length) (trim [py qs i])
  have h2 := lagK_length' qs i qs.length h
  have h3 : (trim [py qs i]).length ≤ 1 := length_trim _
  omega
theorem thrS_length (qs : List (B × B)) : ∀ i, i ≤ qs.length → (thrS qs i).length ≤ qs.length
  | 0, _ => Nat.zero_le _
  | i + 1, h => by
    have ih := thrS_length qs i (by omega)
    have ht := term_length qs (show i < qs.length by omega)
    rw [thrS]
    refine Nat.le_trans (length_trim _) ?_
    rw [length_addP]
    omega
theorem ev_lagF (qs : List (B × B)) (i k : Nat) (x : B) : ev (lagF qs i k) x = mul (x ^^^ px qs k) (lagD qs i k) := by
  unfold lagF
  rw [ev_trim, ev_cons, ev_cons]
  show _ ^^^ mul x (_ ^^^ mul x 0) = _
  rw [mul_zero, xor0, xor_mul, BitVec.xor_comm]
theorem ev_one (x : B) : ev [1] x = 1 := by
  rw [ev_cons]
  show (1 : B) ^^^ mul x 0 = 1
  rw [mul_zero, xor0]
theorem lagK_at {qs : List (B × B)} (h : (xsOf qs).Nodup) {i : Nat} (hi : i < qs.length) : ∀ k, k ≤ qs.length → ev (lagK qs i k) (px qs i) = 1
  | 0, _ => ev_one _
  | k + 1, hk => by
    have ih := lagK_at h hi k (by omega)
    rw [lagK]
    split
    · exact ih
    · rename_i hki
      rw [ev_trim, ev_mulP, ih, one_mul, ev_lagF]
      unfold lagD
      exact mul_inv (fun h2 => px_ne h hi (show k < qs.length by omega) (fun h3 => hki h3.symm) (xor_eq_zero h2))
theorem lagK_off {qs : List (B × B)} {i j : Nat} (hne : j ≠ i) : ∀ k, j < k → ev (lagK qs i k) (px qs j) = 0
  | 0, h => absurd h (Nat.not_lt_zero _)
  | k + 1, h => by
    rw [lagK]
    by_cases hjk : j = k
    · subst hjk
      rw [if_neg hne, ev_trim, ev_mulP, ev_lagF, xself, zero_mul, mul_zero]
    · have ih := lagK_off (qs := qs) hne k (by omega)
      split
      · exact ih
      · rw [ev_trim, ev_mulP, ih, zero_mul]
theorem ev_single (y x : B) : ev (trim [y]) x = y := by
  rw [ev_trim, ev_cons]
  show y ^^^ mul x 0 = y
  rw [mul_zero, xor0]
theorem thrS_at {qs : List (B × B)} (h : (xsOf qs).Nodup) {j : Nat} (hj : j < qs.length) : ∀ i, i ≤ qs.length → ev (thrS qs i) (px qs j) = if j < i then py qs j else 0
  | 0, _ => rfl
  | i + 1, hi => by
    have ih := thrS_at h hj i (by omega)
    rw [thrS, ev_trim, ev_addP, ih, ev_trim, ev_mulP, ev_single]
    by_cases hji : j = i
    · subst hji
      rw [if_neg (Nat.lt_irrefl _), if_pos (Nat.lt_succ_self _), lagK_at h hj _ (Nat.le_refl _), one_mul, zxor]
    · rw [lagK_off hji _ hj, zero_mul, xor0]
      by_cases h2 : j < i
      · rw [if_pos h2, if_pos (by omega)]
      · rw [if_neg h2, if_neg (by omega)]
theorem thrS_right (qs : List (B × B)) : ∀ i, Right (thrS qs i)
  | 0 => fun h => absurd rfl h
  | _ + 1 => trim_right _
/-- What is through points: the one polynomial that is as short. -/
theorem thr_unique {qs : List (B × B)} (h : (xsOf qs).Nodup) {p : List B} (hr : Right p) (hl : p.length ≤ qs.length) (he : ∀ j, j < qs.length → ev p (px qs j) = py qs j) : p = thrS qs qs.length := by
  refine right_eq hr (thrS_right qs _) (unique (xs := xsOf qs) h (by simpa [xsOf] using hl) (by simpa [xsOf] using thrS_length qs _ (Nat.le_refl _)) (fun x hx => ?_))
  obtain ⟨j, hj, rfl⟩ := List.getElem_of_mem hx
  have hj' : j < qs.length := by simpa [xsOf] using hj
  rw [xsOf_getElem hj', he j hj', thrS_at h hj' _ (Nat.le_refl _), if_pos hj']
/-! Places to vanish at. -/
def okX (z : Int) : Bool := decide (1 ≤ z ∧ z ≤ 255)
def xsB (zs : List Int) (most : Int) : Bool := decide ((zs.length : Int) ≤ most) && (zs.all okX && decide zs.Nodup)
theorem nodup_take1 {zs : List Int} {j : Nat} (hj : j < zs.length) (h : (zs.take j).Nodup) (hk : ∀ k, k < j → zs.getD k 0 ≠ zs.getD j 0) : (zs.take (j + 1)).Nodup := by
  have e : zs.take (j + 1) = zs.take j ++ [zs[j]] := (List.take_append_getElem hj).symm
  rw [e, List.nodup_append]
  refine ⟨h, by simp, fun a ha b hb => ?_⟩
  obtain ⟨k, hkl, rfl⟩ := List.getElem_of_mem ha
  simp only [List.mem_singleton] at hb
  subst hb
  have hkj : k < j := by rw [List.length_take] at hkl; omega
  have := hk k hkj
  rw [getD_mem _ (by omega), getD_mem _ hj] at this
  rw [List.getElem_take]
  exact this
theorem not_nodup1 {zs : List Int} {k j : Nat} (hj : j < zs.length) (hk : k < j) (h : zs.getD k 0 = zs.getD j 0) : ¬ zs.Nodup := by
  intro hn
  rw [getD_mem _ (by omega), getD_mem _ hj] at h
  exact List.pairwise_iff_getElem.1 hn k j (by omega) hj hk h
theorem not_all1 {zs : List Int} {j : Nat} (hj : j < zs.length) (h : okX (zs.getD j 0) = false) : zs.all okX = false := by
  rw [List.all_eq_false]
  exact ⟨zs.getD j 0, by rw [getD_mem _ hj]; exact List.getElem_mem _, by rw [h]; exact Bool.false_ne_true⟩
theorem all_of1 {zs : List Int} (h : ∀ t, t < zs.length → okX (zs.getD t 0) = true) : zs.all okX = true := by
  rw [List.all_eq_true]
  intro p hp
  obtain ⟨t, ht, rfl⟩ := List.getElem_of_mem hp
  have := h t ht
  rwa [getD_mem _ ht] at this
theorem xsB_iff (zs : List Int) (most : Int) : xsB zs most = true ↔ ∃ xs : List B, zs = pv xs ∧ (xs.length : Int) ≤ most ∧ (∀ x ∈ xs, x ≠ 0) ∧ xs.Nodup := by
  constructor
  · intro h
    unfold xsB at h
    rw [Bool.and_eq_true, Bool.and_eq_true] at h
    obtain ⟨h1, h2, h3⟩ := h
    have hb : zs.all byteB = true := by
      rw [List.all_eq_true]
      intro z hz
      have := List.all_eq_true.1 h2 z hz
      unfold okX at this
      have := of_decide_eq_true this
      exact decide_eq_true (by omega)
    obtain ⟨xs, rfl⟩ := all_bytes hb
    refine ⟨xs, rfl, ?_, fun x hx h0 => ?_, ?_⟩
    · have := of_decide_eq_true h1
      rwa [pv_length] at this
    · have := List.all_eq_true.1 h2 (bi x) (List.mem_map_of_mem hx)
      subst h0
      unfold okX at this
      have := of_decide_eq_true this
      rw [bi_zero] at this
      omega
    · have := of_decide_eq_true h3
      exact (List.pairwise_map.1 this).imp (fun {a b} h h2 => h (congrArg bi h2))
  · rintro ⟨xs, rfl, h1, h2, h3⟩
    have h4 : (pv xs).Nodup := List.pairwise_map.2 (h3.imp (fun {a b} h h2 => h (bi_inj h2)))
    have h5 : (pv xs).all okX = true := by
      rw [List.all_eq_true]
      intro z hz
      obtain ⟨x, hx, rfl⟩ := List.mem_map.1 hz
      have h6 := bi_range x
      have h7 : bi x ≠ 0 := fun h8 => h2 x hx (bi_inj (h8.trans bi_zero.symm))
      exact decide_eq_true ⟨by omega, h6.2⟩
    unfold xsB
    rw [pv_length, decide_eq_true h1, h5, decide_eq_true h4]
    rfl
/-- What is 0 at some places, and 1 at 0. -/
def vanS (xs : List B) : Nat → List B
  | 0 => [1]
  | i + 1 => trim (mulP (vanS xs i) [1, inv (cf xs i)])
theorem vanS_length (xs : List B) : ∀ i, (vanS xs i).length ≤ i + 1
  | 0 => Nat.le_refl _
  | i + 1 => by
    have ih := vanS_length xs i
    rw [vanS]
    have h := length_trim_mul (vanS xs i) [1, inv (cf xs i)]
    have h2 : [(1 : B), inv (cf xs i)].length = 2 := rfl
    omega
theorem ev_pair (d x : B) : ev [1, d] x = 1 ^^^ mul x d := by
  rw [ev_cons, ev_cons]
  show (1 : B) ^^^ mul x (d ^^^ mul x 0) = _
  rw [mul_zero, xor0]
theorem vanS_zero (xs : List B) : ∀ i, ev (vanS xs i) 0 = 1
  | 0 => ev_one 0
  | i + 1 => by rw [vanS, ev_trim, ev_mulP, vanS_zero xs i, one_mul, ev_pair, zero_mul, xor0]
theorem vanS_at {xs : List B} {j : Nat} (h : cf xs j ≠ 0) : ∀ i, j < i → ev (vanS xs i) (cf xs j) = 0
  | 0, hi => absurd hi (Nat.not_lt_zero _)
  | i + 1, hi => by
    rw [vanS, ev_trim, ev_mulP]
    by_cases hji : j = i
    · subst hji
      rw [ev_pair, mul_inv h, xself, mul_zero]
    · rw [vanS_at h i (by omega), zero_mul]
end Go.Proofs.Ytomojokamaibaaa.MGF
/- Parts, by lists of bytes: the polynomials of a secret, what they are at a place, what is made of parts, what is hidden. Nothing of the program stands here. -/
namespace Go.Proofs.Ytomojokamaibaaa.MGF
open Go.RowKit
/-- The bytes of a text; the text of bytes. -/
def tb (t : ByteArray) : List B := t.data.toList.map fun c => BitVec.ofNat 8 c.toNat
def tx (l : List B) : ByteArray := strOfNums (pv l)
theorem tb_length (t : ByteArray) : (tb t).length = t.size := by simp [tb]
theorem tx_size (l : List B) : (tx l).size = l.length := by unfold tx; rw [strOfNums_size, pv_length]
theorem tb_cf (t : ByteArray) {i : Nat} (h : i < t.size) : bi (cf (tb t) i) = (t[i].toNat : Int) := by
  have h2 : i < t.data.toList.length := by simpa using h
  have e : cf (tb t) i = BitVec.ofNat 8 t[i].toNat := by
    unfold cf tb
    rw [List.getD_eq_getElem?_getD, List.getElem?_map, List.getElem?_eq_getElem h2]
    rfl
  rw [e]
  unfold bi
  have := t[i].toNat_lt
  rw [BitVec.toNat_ofNat, Nat.mod_eq_of_lt (by omega)]
theorem tx_tb (t : ByteArray) : tx (tb t) = t := by
  have e : pv (tb t) = t.data.toList.map fun x => (x.toNat : Int) := by
    unfold pv tb
    rw [List.map_map]
    refine List.map_congr_left (fun c _ => ?_)
    show ((BitVec.ofNat 8 c.toNat).toNat : Int) = (c.toNat : Int)
    have := c.toNat_lt
    rw [BitVec.toNat_ofNat, Nat.mod_eq_of_lt (by omega)]
  unfold tx strOfNums
  rw [e, List.map_map]
  have : (t.data.toList.map ((fun n : Int => UInt8.ofNat n.toNat) ∘ fun x : UInt8 => (x.toNat : Int))) = t.data.toList := by
    refine (List.map_congr_left (fun c _ => ?_)).trans (List.map_id _)
    show UInt8.ofNat ((c.toNat : Int).toNat) = id c
    simp
  rw [this]
theorem tb_tx (l : List B) : tb (tx l) = l := by
  unfold tb tx strOfNums pv
  simp only [List.map_map]
  refine (List.map_congr_left (fun c _ => ?_)).trans (List.map_id _)
  show BitVec.ofNat 8 (UInt8.ofNat (bi c).toNat).toNat = id c
  have := c.isLt
  apply BitVec.eq_of_toNat_eq
  simp [bi]
/-- A byte's own draws; its polynomial. -/
def rowD (d : List B) (k i : Nat) : List B := (d.drop (i * k)).take k
def polyT (s d : List B) (k i : Nat) : List B := trim (cf s i :: rowD d k i)
def polysT (s d : List B) (k : Nat) : List (List B) := (List.range s.length).map (polyT s d k)
/-- What polynomials are at a place. -/
def vals (ps : List (List B)) (x : B) : List B := ps.map fun p => ev p x
theorem rowD_length {d : List B} {k i n : Nat} (h : n * k ≤ d.length) (hi : i < n) : (rowD d k i).length = k := by
  unfold rowD
  have : i * k + k ≤ n * k := by rw [← Nat.succ_mul]; exact Nat.mul_le_mul_right k hi
  rw [List.length_take, List.length_drop]
  omega
theorem rowD_le (d : List B) (k i : Nat) : (rowD d k i).length ≤ k := by unfold rowD; exact List.length_take_le _ _
theorem polyT_len (s d : List B) (k i : Nat) : (polyT s d k i).length ≤ k + 1 := by
  have h1 := length_trim (cf s i :: rowD d k i)
  have h2 := rowD_le d k i
  simp only [List.length_cons] at h1
  unfold polyT
  omega
theorem polyT_right (s d : List B) (k i : Nat) : Right (polyT s d k i) := trim_right _
theorem polyT_ev (s d : List B) (k i : Nat) (x : B) : ev (polyT s d k i) x = cf s i ^^^ mul x (ev (rowD d k i) x) := by unfold polyT; rw [ev_trim, ev_cons]
theorem polyT_zero (s d : List B) (k i : Nat) : ev (polyT s d k i) 0 = cf s i := by rw [polyT_ev, zero_mul, xor0]
theorem polyT_cf (s d : List B) (k i t : Nat) (ht : t < k) : cf (polyT s d k i) (t + 1) = cf d (i * k + t) := by
  unfold polyT
  rw [(trim_same _) (t + 1), cf_succ]
  unfold rowD cf
  simp [List.getD, ht]
theorem polysT_length (s d : List B) (k : Nat) : (polysT s d k).length = s.length := by simp [polysT]
theorem polysT_getD (s d : List B) (k : Nat) {i : Nat} (h : i < s.length) : (polysT s d k).getD i [] = polyT s d k i := by simp [polysT, List.getD, h]
theorem polysT_take (s d : List B) (k : Nat) {i : Nat} (h : i < s.length) : (polysT s d k).take (i + 1) = (polysT s d k).take i ++ [polyT s d k i] := by
  have hl : i < (polysT s d k).length := by rw [polysT_length]; exact h
  rw [← List.take_append_getElem hl]
  simp [polysT]
theorem vals_length (ps : List (List B)) (x : B) : (vals ps x).length = ps.length := by simp [vals]
theorem vals_cf {ps : List (List B)} {i : Nat} (h : i < ps.length) (x : B) : cf (vals ps x) i = ev (ps.getD i []) x := by simp [vals, cf, List.getD, h]
/-- The place of a number. -/
def pl (n : Nat) : B := BitVec.ofNat 8 n
theorem pl_bi {n : Nat} (h : n < 256) : bi (pl n) = (n : Int) := by unfold bi pl; rw [BitVec.toNat_ofNat, Nat.mod_eq_of_lt (by omega)]
theorem pl_inj {n m : Nat} (hn : n < 256) (hm : m < 256) (h : pl n = pl m) : n = m := by have := congrArg bi h; rw [pl_bi hn, pl_bi hm] at this; omega
/-- The parts of a secret. -/
def partsT (ps : List (List B)) (many : Nat) : List (Int × ByteArray) := (List.range many).map fun j : Nat => ((j : Int) + 1, tx (vals ps (pl (j + 1))))
theorem partsT_length (ps : List (List B)) (many : Nat) : (partsT ps many).length = many := by simp [partsT]
theorem partsT_succ (ps : List (List B)) (many : Nat) : partsT ps (many + 1) = partsT ps many ++ [((many : Int) + 1, tx (vals ps (pl (many + 1))))] := by
  unfold partsT
  rw [List.range_succ, List.map_append]
  rfl
theorem partsT_getD (ps : List (List B)) {many j : Nat} (h : j < many) : (partsT ps many).getD j (0, ByteArray.empty) = ((j : Int) + 1, tx (vals ps (pl (j + 1)))) := by simp [partsT, List.getD, h]
/-- The points that parts have at a place. -/
def ptsAt (l : List (Int × ByteArray)) (i : Nat) : List (B × B) := l.map fun p => (ib p.1, cf (tb p.2) i)
theorem ptsAt_length (l : List (Int × ByteArray)) (i : Nat) : (ptsAt l i).length = l.length := by simp [ptsAt]
def combL (l : List (Int × ByteArray)) : List B := (List.range (l.getD 0 (0, ByteArray.empty)).2.size).map fun i => ev (thrS (ptsAt l i) l.length) 0
/-- Right parts, of different places, of one size. -/
def okPart (p : Int × ByteArray) : Bool := okX p.1 && decide (1 ≤ p.2.size ∧ p.2.size ≤ 16)
def partsB (l : List (Int × ByteArray)) : Bool := decide (1 ≤ l.length ∧ l.length ≤ 20) && l.all okPart
def placeB (l : List (Int × ByteArray)) : Bool := decide (l.map Prod.fst).Nodup
def sizeB (l : List (Int × ByteArray)) : Bool := l.all fun p => decide (p.2.size = (l.getD 0 (0, ByteArray.empty)).2.size)
def partsCode (l : List (Int × ByteArray)) : Int := if 400 < l.length then 2 else if partsB l = false then 1 else if placeB l = false then 7 else if sizeB l = false then 10 else 0
def combR (l : List (Int × ByteArray)) : ByteArray × Int := if partsCode l = 0 then (tx (combL l), 0) else (ByteArray.empty, partsCode l)
/-- What is hidden. -/
def hideP (s o d xs : List B) (k i : Nat) : List B := trim (addP (polyT s d k i) (trim (mulP (vanS xs xs.length) (trim [cf s i ^^^ cf o i]))))
def hideAt (s o d xs : List B) (k i : Nat) : List B := (List.range k).map fun t => cf (hideP s o d xs k i) (t + 1)
def hideL (s o d xs : List B) (k : Nat) : Nat → List B
  | 0 => []
  | i + 1 => hideL s o d xs k i ++ hideAt s o d xs k i
theorem hideAt_length (s o d xs : List B) (k i : Nat) : (hideAt s o d xs k i).length = k := by simp [hideAt]
theorem hideL_length (s o d xs : List B) (k : Nat) : ∀ i, (hideL s o d xs k i).length = i * k
  | 0 => by simp [hideL]
  | i + 1 => by rw [hideL, List.length_append, hideL_length s o d xs k i, hideAt_length, Nat.succ_mul]
theorem hideL_cf (s o d xs : List B) (k : Nat) {i t : Nat} (ht : t < k) : ∀ n, i < n → cf (hideL s o d xs k n) (i * k + t) = cf (hideP s o d xs k i) (t + 1)
  | 0, h => absurd h (by omega)
  | n + 1, h => by
    have hl := hideL_length s o d xs k n
    unfold hideL cf
    rw [List.getD_eq_getElem?_getD]
    by_cases hi : i = n
    · subst hi
      rw [List.getElem?_append_right (by omega), hl, show i * k + t - i * k = t by omega]
      simp [hideAt, ht, cf]
    · have hlt : i * k + t < n * k := by
        have : i * k + k ≤ n * k := by rw [← Nat.succ_mul]; exact Nat.mul_le_mul_right k (show i + 1 ≤ n by omega)
        omega
      rw [List.getElem?_append_left (l₁ := hideL s o d xs k n) (by omega)]
      have := hideL_cf s o d xs k (i := i) ht n (by omega)
      unfold cf at this
      rw [List.getD_eq_getElem?_getD] at this
      exact this
theorem hideP_ev (s o d xs : List B) (k i : Nat) (x : B) : ev (hideP s o d xs k i) x = ev (polyT s d k i) x ^^^ mul (ev (vanS xs xs.length) x) (cf s i ^^^ cf o i) := by
  unfold hideP
  rw [ev_trim, ev_addP, ev_trim, ev_mulP, ev_single]
theorem hideP_len (s o d xs : List B) (k i : Nat) (hx : xs.length ≤ k) : (hideP s o d xs k i).length ≤ k + 1 := by
  unfold hideP
  refine Nat.le_trans (length_trim _) ?_
  rw [length_addP]
  have h1 := length_trim_mul (vanS xs xs.length) (trim [cf s i ^^^ cf o i])
  have h2 := length_trim [cf s i ^^^ cf o i]
  have h3 := vanS_length xs xs.length
  have h4 := polyT_len s d k i
  simp only [List.length_cons, List.length_nil] at h2
  omega
theorem hideP_right (s o d xs : List B) (k i : Nat) : Right (hideP s o d xs k i) := trim_right _
theorem ev_zero_cf (p : List B) : ev p 0 = cf p 0 := by
  cases p with
  | nil => simp [ev, cf]
  | cons c p => rw [ev_cons, zero_mul, xor0, cf_zero]
theorem hideP_zero (s o d xs : List B) (k i : Nat) : ev (hideP s o d xs k i) 0 = cf o i := by
  rw [hideP_ev, polyT_zero, vanS_zero, one_mul, ← BitVec.xor_assoc, xself, zxor]
/-- What is hidden are draws of the other secret: its polynomials are these. -/
theorem polyT_hide (s o d xs : List B) {k n i : Nat} (hx : xs.length ≤ k) (hi : i < n) : polyT o (hideL s o d xs k n) k i = hideP s o d xs k i := by
  refine right_eq (polyT_right _ _ _ _) (hideP_right _ _ _ _ _ _) (fun t => ?_)
  cases t with
  | zero => rw [← ev_zero_cf, ← ev_zero_cf, polyT_zero, hideP_zero]
  | succ t =>
    by_cases ht : t < k
    · rw [polyT_cf _ _ _ _ _ ht, hideL_cf s o d xs k ht n hi]
    · have h1 := polyT_len o (hideL s o d xs k n) k i
      have h2 := hideP_len s o d xs k i hx
      rw [cf_past (by omega), cf_past (by omega)]
theorem polysT_hide (s o d xs : List B) {k : Nat} (hx : xs.length ≤ k) (hso : o.length = s.length) : polysT o (hideL s o d xs k s.length) k = (List.range s.length).map (hideP s o d xs k) := by
  unfold polysT
  rw [hso]
  exact List.map_congr_left (fun i hi => polyT_hide s o d xs hx (List.mem_range.1 hi))
/-- The same parts at the places. -/
theorem vals_hide (s o d xs : List B) {k : Nat} (hx : xs.length ≤ k) (hso : o.length = s.length) {x : B} (hm : x ∈ xs) (h0 : ∀ x ∈ xs, x ≠ 0) : vals (polysT o (hideL s o d xs k s.length) k) x = vals (polysT s d k) x := by
  rw [polysT_hide s o d xs hx hso]
  unfold vals polysT
  rw [List.map_map, List.map_map]
  refine List.map_congr_left (fun i _ => ?_)
  show ev (hideP s o d xs k i) x = ev (polyT s d k i) x
  obtain ⟨j, hj, rfl⟩ := List.getElem_of_mem hm
  have hc : cf xs j = xs[j] := by unfold cf; rw [getD_mem _ hj]
  have hv := vanS_at (xs := xs) (j := j) (by rw [hc]; exact h0 _ (List.getElem_mem _)) xs.length hj
  rw [hc] at hv
  rw [hideP_ev, hv, zero_mul, xor0]
/-- Hidden back it is what it was. -/
theorem hideP_back (s o d xs : List B) {k i : Nat} (hx : xs.length ≤ k) (_ : o.length = s.length) (hi : i < s.length) : hideP o s (hideL s o d xs k s.length) xs k i = polyT s d k i := by
  refine right_eq (hideP_right _ _ _ _ _ _) (polyT_right _ _ _ _) (fun t => ?_)
  unfold hideP
  rw [(trim_same _) t, cf_addP, polyT_hide s o d xs hx hi]
  unfold hideP
  rw [(trim_same _) t, cf_addP, BitVec.xor_comm (cf o i) (cf s i), BitVec.xor_assoc, xself, xor0]
theorem hideL_back (s o d xs : List B) {k : Nat} (hx : xs.length ≤ k) (hso : o.length = s.length) (hd : s.length * k ≤ d.length) : ∀ n, n ≤ s.length → hideL o s (hideL s o d xs k s.length) xs k n = d.take (n * k)
  | 0, _ => by simp [hideL]
  | n + 1, h => by
    rw [hideL, hideL_back s o d xs hx hso hd n (by omega), Nat.succ_mul, List.take_add]
    congr 1
    have hl : n * k + k ≤ d.length := by
      have : n * k + k ≤ s.length * k := by rw [← Nat.succ_mul]; exact Nat.mul_le_mul_right k h
      omega
    apply List.ext_getElem
    · simp [hideAt]; omega
    · intro t h1 h2
      have ht : t < k := by simpa [hideAt] using h1
      have e : cf (hideP o s (hideL s o d xs k s.length) xs k n) (t + 1) = cf (polyT s d k n) (t + 1) := by rw [hideP_back s o d xs hx hso (show n < s.length by omega)]
      rw [polyT_cf _ _ _ _ _ ht] at e
      simp only [hideAt, List.getElem_map, List.getElem_range, List.getElem_take, List.getElem_drop]
      rw [e]
      unfold cf
      rw [getD_mem _ (show n * k + t < d.length by omega)]
/-- So many points of a polynomial as it is long tell it. -/
def along (f : B → B) (n : Nat) : List (B × B) := (List.range n).map fun j => (pl j, f (pl j))
theorem along_length (f : B → B) (n : Nat) : (along f n).length = n := by simp [along]
theorem along_nodup (f : B → B) {n : Nat} (h : n ≤ 256) : (xsOf (along f n)).Nodup := by
  unfold xsOf along
  rw [List.map_map]
  refine List.pairwise_map.2 (List.Pairwise.imp_of_mem ?_ (List.nodup_range (n := n)))
  intro a b ha hb hne hab
  have ha2 := List.mem_range.1 ha
  have hb2 := List.mem_range.1 hb
  exact hne (pl_inj (by omega) (by omega) hab)
theorem along_thr {f : B → B} {n : Nat} {p : List B} (h : n ≤ 256) (hr : Right p) (hl : p.length ≤ n) (he : ∀ x, f x = ev p x) : thrS (along f n) n = p := by
  have h1 := thr_unique (qs := along f n) (along_nodup f h) hr (by rw [along_length]; exact hl) (fun j hj => by
    rw [along_length] at hj
    unfold px py along
    simp [List.getD, hj, he])
  rw [along_length] at h1
  exact h1.symm
/-- Parts of a secret, so many as are needed and of different places, make it. -/
theorem comb_parts {s d : List B} {k : Nat} {l : List (Int × ByteArray)} {js : List Nat} (hl : l = js.map fun j : Nat => ((j : Int) + 1, tx (vals (polysT s d k) (pl (j + 1))))) (hk : k + 1 ≤ js.length) (hj : ∀ j ∈ js, j < 20) (hn : js.Nodup) : combL l = s := by
  have h0 : 0 < js.length := by omega
  have hll : l.length = js.length := by rw [hl]; simp
  have hsz : (l.getD 0 (0, ByteArray.empty)).2.size = s.length := by
    rw [hl]
    simp [List.getD, h0, tx_size, vals_length, polysT_length]
  unfold combL
  rw [hsz]
  apply List.ext_getElem
  · simp
  · intro i h1 h2
    simp only [List.getElem_map, List.getElem_range]
    have hp : ptsAt l i = js.map fun j : Nat => (pl (j + 1), ev (polyT s d k i) (pl (j + 1))) := by
      unfold ptsAt
      rw [hl, List.map_map]
      refine List.map_congr_left (fun j hjm => ?_)
      have hj20 := hj j hjm
      show (ib ((j : Int) + 1), cf (tb (tx (vals (polysT s d k) (pl (j + 1))))) i) = _
      rw [tb_tx, vals_cf (by rw [polysT_length]; exact h2), polysT_getD _ _ _ h2]
      congr 1
    have hnd : (xsOf (ptsAt l i)).Nodup := by
      rw [hp]
      unfold xsOf
      rw [List.map_map]
      refine List.pairwise_map.2 (List.Pairwise.imp_of_mem ?_ hn)
      intro a b ha hb hne hab
      have := hj a ha
      have := hj b hb
      exact hne (by have := pl_inj (by omega) (by omega) hab; omega)
    have hu := thr_unique hnd (polyT_right s d k i) (by rw [ptsAt_length, hll]; have := polyT_len s d k i; omega) (fun t ht => by
      rw [ptsAt_length, hll] at ht
      unfold px py
      rw [hp]
      simp [List.getD, ht])
    rw [ptsAt_length] at hu
    rw [← hu, polyT_zero]
    unfold cf
    rw [getD_mem _ h2]
end Go.Proofs.Ytomojokamaibaaa.MGF
/- Parts: what is a secret, which fault is named, what is answered. Nothing of the program stands here. -/
namespace Go.Proofs.Ytomojokamaibaaa.MGF
def secB (t : ByteArray) : Bool := decide (1 ≤ t.size ∧ t.size ≤ 16)
def needB (need : Int) : Bool := decide (1 ≤ need ∧ need ≤ 10)
def manyB (need many : Int) : Bool := needB need && decide (need ≤ many ∧ many ≤ 20)
def needsI (t : ByteArray) (need : Int) : Int := if secB t = true ∧ needB need = true then (need - 1) * (t.size : Int) else -1
theorem needsI_yes {t : ByteArray} {need : Int} (h : secB t = true) (k : needB need = true) : needsI t need = (need - 1) * (t.size : Int) := by unfold needsI; rw [if_pos ⟨h, k⟩]
theorem needsI_no {t : ByteArray} {need : Int} (h : ¬ (secB t = true ∧ needB need = true)) : needsI t need = -1 := by unfold needsI; rw [if_neg h]
theorem secB_iff {t : ByteArray} : secB t = true ↔ 1 ≤ t.size ∧ t.size ≤ 16 := by unfold secB; exact decide_eq_true_iff
theorem needB_iff {n : Int} : needB n = true ↔ 1 ≤ n ∧ n ≤ 10 := by unfold needB; exact decide_eq_true_iff
theorem needs_bound {t : ByteArray} {need : Int} (h : secB t = true) (k : needB need = true) : 0 ≤ (need - 1) * (t.size : Int) ∧ (need - 1) * (t.size : Int) ≤ 144 := by
  obtain ⟨h1, h2⟩ := secB_iff.1 h
  obtain ⟨k1, k2⟩ := needB_iff.1 k
  refine ⟨Int.mul_nonneg (by omega) (by omega), ?_⟩
  have : (need - 1) * (t.size : Int) ≤ 9 * 16 := Int.mul_le_mul (by omega) (by omega) (by omega) (by omega)
  exact this
/-- The code of Split; what it answers. -/
def splitC (s : ByteArray) (need many : Int) (d : ByteArray) : Int :=
  if 8000 < s.size ∨ 8000 < d.size then 2 else if secB s = true ∧ manyB need many = true then (if (d.size : Int) < needsI s need then 13 else 0) else 1
def kOf (need : Int) : Nat := (need - 1).toNat
def splitR (s : ByteArray) (need many : Int) (d : ByteArray) : List (Int × ByteArray) × Int :=
  if splitC s need many d = 0 then (partsT (polysT (tb s) (tb d) (kOf need)) many.toNat, 0) else ([], splitC s need many d)
theorem splitR_no {s d : ByteArray} {need many c : Int} (h : splitC s need many d = c) (hc : c ≠ 0) : splitR s need many d = ([], c) := by unfold splitR; rw [h, if_neg hc]
theorem splitR_yes {s d : ByteArray} {need many : Int} (h : splitC s need many d = 0) : splitR s need many d = (partsT (polysT (tb s) (tb d) (kOf need)) many.toNat, 0) := by unfold splitR; rw [if_pos h]
theorem splitC_size {s d : ByteArray} {need many : Int} (h : 8000 < s.size ∨ 8000 < d.size) : splitC s need many d = 2 := by unfold splitC; rw [if_pos h]
theorem splitC_form {s d : ByteArray} {need many : Int} (h : ¬ (8000 < s.size ∨ 8000 < d.size)) (k : ¬ (secB s = true ∧ manyB need many = true)) : splitC s need many d = 1 := by unfold splitC; rw [if_neg h, if_neg k]
theorem splitC_draws {s d : ByteArray} {need many : Int} (h : ¬ (8000 < s.size ∨ 8000 < d.size)) (k : secB s = true ∧ manyB need many = true) (l : (d.size : Int) < needsI s need) : splitC s need many d = 13 := by unfold splitC; rw [if_neg h, if_pos k, if_pos l]
theorem splitC_ok {s d : ByteArray} {need many : Int} (h : ¬ (8000 < s.size ∨ 8000 < d.size)) (k : secB s = true ∧ manyB need many = true) (l : ¬ (d.size : Int) < needsI s need) : splitC s need many d = 0 := by unfold splitC; rw [if_neg h, if_pos k, if_neg l]
/-- What a right call of Split is told. -/
structure SplitOk (s : ByteArray) (need many : Int) (d : ByteArray) : Prop where
  s1 : 1 ≤ s.size
  s2 : s.size ≤ 16
  n1 : 1 ≤ need
  n2 : need ≤ 10
  m1 : need ≤ many
  m2 : many ≤ 20
  dr : s.size * kOf need ≤ d.size
  d8 : d.size ≤ 8000
theorem splitC_zero {s d : ByteArray} {need many : Int} (h : splitC s need many d = 0) : SplitOk s need many d := by
  by_cases h1 : 8000 < s.size ∨ 8000 < d.size
  · rw [splitC_size h1] at h; exact absurd h (by decide)
  · by_cases h2 : secB s = true ∧ manyB need many = true
    · by_cases h3 : (d.size : Int) < needsI s need
      · rw [splitC_draws h1 h2 h3] at h; exact absurd h (by decide)
      · obtain ⟨hs, hm⟩ := h2
        unfold manyB at hm
        rw [Bool.and_eq_true] at hm
        have hm2 := of_decide_eq_true hm.2
        obtain ⟨a1, a2⟩ := secB_iff.1 hs
        obtain ⟨b1, b2⟩ := needB_iff.1 hm.1
        rw [needsI_yes hs hm.1] at h3
        refine ⟨a1, a2, b1, b2, hm2.1, hm2.2, ?_, by omega⟩
        unfold kOf
        have e : ((s.size * (need - 1).toNat : Nat) : Int) = (need - 1) * (s.size : Int) := by
          rw [Int.natCast_mul, Int.toNat_of_nonneg (by omega), Int.mul_comm]
        omega
    · rw [splitC_form h1 h2] at h; exact absurd h (by decide)
theorem splitR_len (s : ByteArray) (need many : Int) (d : ByteArray) : (splitR s need many d).1.length ≤ 20 := by
  by_cases h : splitC s need many d = 0
  · rw [splitR_yes h]
    have := splitC_zero h
    have h1 := this.n1
    have h2 := this.m1
    have h3 := this.m2
    show (partsT _ _).length ≤ 20
    rw [partsT_length]
    omega
  · unfold splitR; rw [if_neg h]; exact Nat.zero_le _
/-- The code of Hide; what it answers. -/
def hideC (s o : ByteArray) (need : Int) (xs : List Int) (d : ByteArray) : Int :=
  if 8000 < s.size ∨ 8000 < o.size ∨ 400 < xs.length ∨ 8000 < d.size then 2
  else if secB s = true ∧ secB o = true ∧ s.size = o.size ∧ needB need = true ∧ xsB xs (need - 1) = true then (if (d.size : Int) < needsI s need then 13 else 0) else 1
def hideR (s o : ByteArray) (need : Int) (xs : List Int) (d : ByteArray) : ByteArray × Int :=
  if hideC s o need xs d = 0 then (tx (hideL (tb s) (tb o) (tb d) (xs.map ib) (kOf need) s.size), 0) else (ByteArray.empty, hideC s o need xs d)
theorem hideC_size {s o d : ByteArray} {need : Int} {xs : List Int} (h : 8000 < s.size ∨ 8000 < o.size ∨ 400 < xs.length ∨ 8000 < d.size) : hideC s o need xs d = 2 := by unfold hideC; rw [if_pos h]
theorem hideC_form {s o d : ByteArray} {need : Int} {xs : List Int} (h : ¬ (8000 < s.size ∨ 8000 < o.size ∨ 400 < xs.length ∨ 8000 < d.size)) (k : ¬ (secB s = true ∧ secB o = true ∧ s.size = o.size ∧ needB need = true ∧ xsB xs (need - 1) = true)) : hideC s o need xs d = 1 := by unfold hideC; rw [if_neg h, if_neg k]
theorem hideC_draws {s o d : ByteArray} {need : Int} {xs : List Int} (h : ¬ (8000 < s.size ∨ 8000 < o.size ∨ 400 < xs.length ∨ 8000 < d.size)) (k : secB s = true ∧ secB o = true ∧ s.size = o.size ∧ needB need = true ∧ xsB xs (need - 1) = true) (l : (d.size : Int) < needsI s need) : hideC s o need xs d = 13 := by unfold hideC; rw [if_neg h, if_pos k, if_pos l]
theorem hideC_ok {s o d : ByteArray} {need : Int} {xs : List Int} (h : ¬ (8000 < s.size ∨ 8000 < o.size ∨ 400 < xs.length ∨ 8000 < d.size)) (k : secB s = true ∧ secB o = true ∧ s.size = o.size ∧ needB need = true ∧ xsB xs (need - 1) = true) (l : ¬ (d.size : Int) < needsI s need) : hideC s o need xs d = 0 := by unfold hideC; rw [if_neg h, if_pos k, if_neg l]
theorem hideR_no {s o d : ByteArray} {need c : Int} {xs : List Int} (h : hideC s o need xs d = c) (hc : c ≠ 0) : hideR s o need xs d = (ByteArray.empty, c) := by unfold hideR; rw [h, if_neg hc]
theorem hideR_yes {s o d : ByteArray} {need : Int} {xs : List Int} (h : hideC s o need xs d = 0) : hideR s o need xs d = (tx (hideL (tb s) (tb o) (tb d) (xs.map ib) (kOf need) s.size), 0) := by unfold hideR; rw [if_pos h]
/-- What a right call of Hide is told. -/
structure HideOk (s o : ByteArray) (need : Int) (xs : List Int) (d : ByteArray) (ys : List B) : Prop where
  s1 : 1 ≤ s.size
  s2 : s.size ≤ 16
  so : s.size = o.size
  n1 : 1 ≤ need
  n2 : need ≤ 10
  xs : xs = pv ys
  len : ys.length ≤ kOf need
  ne : ∀ x ∈ ys, x ≠ 0
  nd : ys.Nodup
  dr : s.size * kOf need ≤ d.size
  d8 : d.size ≤ 8000
theorem hideC_zero {s o d : ByteArray} {need : Int} {xs : List Int} (h : hideC s o need xs d = 0) : ∃ ys, HideOk s o need xs d ys := by
  by_cases h1 : 8000 < s.size ∨ 8000 < o.size ∨ 400 < xs.length ∨ 8000 < d.size
  · rw [hideC_size h1] at h; exact absurd h (by decide)
  · by_cases h2 : secB s = true ∧ secB o = true ∧ s.size = o.size ∧ needB need = true ∧ xsB xs (need - 1) = true
    · by_cases h3 : (d.size : Int) < needsI s need
      · rw [hideC_draws h1 h2 h3] at h; exact absurd h (by decide)
      · obtain ⟨hs, ho, hso, hn, hx⟩ := h2
        obtain ⟨a1, a2⟩ := secB_iff.1 hs
        obtain ⟨b1, b2⟩ := needB_iff.1 hn
        rw [needsI_yes hs hn] at h3
        obtain ⟨ys, hy, hl, h0, hnd⟩ := (xsB_iff xs (need - 1)).1 hx
        refine ⟨ys, ⟨a1, a2, hso, b1, b2, hy, by unfold kOf; omega, h0, hnd, ?_, by omega⟩⟩
        unfold kOf
        have e : ((s.size * (need - 1).toNat : Nat) : Int) = (need - 1) * (s.size : Int) := by
          rw [Int.natCast_mul, Int.toNat_of_nonneg (by omega), Int.mul_comm]
        omega
    · rw [hideC_form h1 h2] at h; exact absurd h (by decide)
end Go.Proofs.Ytomojokamaibaaa.MGF
