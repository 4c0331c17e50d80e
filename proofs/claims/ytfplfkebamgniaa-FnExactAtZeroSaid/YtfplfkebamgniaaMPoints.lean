/- Points as rows of structs, and what is through them. Nothing of the program stands here. -/
import Derived.Test.YtfplfkebamgniaaMRows
namespace Go.Proofs.Ytfplfkebamgniaa.IRow
open Go.RowKit
/-- A row of pairs of int64 that can be read. -/
structure PR (w : World) (a : Option Addr) (n cap : Nat) (ps : List (Int × Int)) : Prop where
  len : ps.length = n
  le : n ≤ cap
  nil : a = none → cap = 0
  cells : 0 < n → ∃ g o, a = some ⟨g, o, none⟩ ∧ g < w.heap.size ∧ ∀ i, i < n → w.cell? ⟨g, o + i * 2, none⟩ = some (.int .i64 (ps.getD i (0, 0)).1) ∧ w.cell? ⟨g, o + i * 2 + 1, none⟩ = some (.int .i64 (ps.getD i (0, 0)).2)
theorem PR.below {w w' : World} {a : Option Addr} {n cap : Nat} {ps : List (Int × Int)} (h : PR w a n cap ps) (hb : Below w.heap.size w w') : PR w' a n cap ps := by
  refine ⟨h.len, h.le, h.nil, fun hn => ?_⟩
  obtain ⟨g, o, ha, hg, hc⟩ := h.cells hn
  exact ⟨g, o, ha, Nat.lt_of_lt_of_le hg hb.size, fun i hi => ⟨(hb.cell (p := ⟨g, o + i * 2, .none⟩) hg).trans (hc i hi).1, (hb.cell (p := ⟨g, o + i * 2 + 1, .none⟩) hg).trans (hc i hi).2⟩⟩
end Go.Proofs.Ytfplfkebamgniaa.IRow
namespace Go.Proofs.Ytfplfkebamgniaa.MGF
def okP (p : Int × Int) : Bool := byteB p.1 && byteB p.2
def pointsB (ps : List (Int × Int)) : Bool := decide (1 ≤ ps.length) && (decide (ps.length ≤ 20) && (ps.all okP && decide (ps.map Prod.fst).Nodup))
theorem getD_mem {α : Type} {l : List α} {i : Nat} (d : α) (h : i < l.length) : l.getD i d = l[i] := by simp [List.getD, h]
theorem nodup_take {ps : List (Int × Int)} {j : Nat} (hj : j < ps.length) (h : ((ps.take j).map Prod.fst).Nodup) (hk : ∀ k, k < j → (ps.getD k (0, 0)).1 ≠ (ps.getD j (0, 0)).1) : ((ps.take (j + 1)).map Prod.fst).Nodup := by
  have e : ps.take (j + 1) = ps.take j ++ [ps[j]] := (List.take_append_getElem hj).symm
  rw [e, List.map_append, List.nodup_append]
  refine ⟨h, by simp, fun a ha b hb => ?_⟩
  obtain ⟨p, hp, rfl⟩ := List.mem_map.1 ha
  obtain ⟨k, hkl, rfl⟩ := List.getElem_of_mem hp
  simp only [List.map_cons, List.map_nil, List.mem_singleton] at hb
  subst hb
  have hkj : k < j := by rw [List.length_take] at hkl; omega
  have := hk k hkj
  rw [getD_mem _ (by omega), getD_mem _ hj] at this
  rw [List.getElem_take]
  exact this
theorem not_nodup {ps : List (Int × Int)} {k j : Nat} (hj : j < ps.length) (hk : k < j) (h : (ps.getD k (0, 0)).1 = (ps.getD j (0, 0)).1) : ¬ (ps.map Prod.fst).Nodup := by
  intro hn
  rw [getD_mem _ (by omega), getD_mem _ hj] at h
  have hp := List.pairwise_iff_getElem.1 hn k j (by simp; omega) (by simpa using hj) hk
  simp only [List.getElem_map] at hp
  exact hp h
theorem not_all {ps : List (Int × Int)} {j : Nat} (hj : j < ps.length) (h : okP (ps.getD j (0, 0)) = false) : ps.all okP = false := by
  rw [List.all_eq_false]
  exact ⟨ps.getD j (0, 0), by rw [getD_mem _ hj]; exact List.getElem_mem _, by rw [h]; exact Bool.false_ne_true⟩
theorem all_of {ps : List (Int × Int)} (h : ∀ t, t < ps.length → okP (ps.getD t (0, 0)) = true) : ps.all okP = true := by
  rw [List.all_eq_true]
  intro p hp
  obtain ⟨t, ht, rfl⟩ := List.getElem_of_mem hp
  have := h t ht
  rwa [getD_mem _ ht] at this
/-- Points of bytes. -/
def pp (qs : List (B × B)) : List (Int × Int) := qs.map fun q => (bi q.1, bi q.2)
theorem pp_length (qs : List (B × B)) : (pp qs).length = qs.length := by simp [pp]
theorem pp_getD (qs : List (B × B)) (i : Nat) : (pp qs).getD i (0, 0) = (bi (qs.getD i (0, 0)).1, bi (qs.getD i (0, 0)).2) := by
  unfold pp
  rw [List.getD_eq_getElem?_getD, List.getElem?_map, List.getD_eq_getElem?_getD]
  cases qs[i]? with
  | none => rfl
  | some a => rfl
def px (qs : List (B × B)) (i : Nat) : B := (qs.getD i (0, 0)).1
def py (qs : List (B × B)) (i : Nat) : B := (qs.getD i (0, 0)).2
def xsOf (qs : List (B × B)) : List B := qs.map Prod.fst
theorem xsOf_getElem {qs : List (B × B)} {i : Nat} (h : i < qs.length) : (xsOf qs)[i]'(by simpa [xsOf] using h) = px qs i := by
  unfold px xsOf
  rw [getD_mem _ h]
  simp
theorem px_ne {qs : List (B × B)} (h : (xsOf qs).Nodup) {i k : Nat} (hi : i < qs.length) (hk : k < qs.length) (hne : i ≠ k) : px qs i ≠ px qs k := by
  rw [← xsOf_getElem hi, ← xsOf_getElem hk]
  intro h2
  have hp := List.pairwise_iff_getElem.1 h
  rcases Nat.lt_or_gt_of_ne hne with h3 | h3
  · exact hp i k (by simpa [xsOf] using hi) (by simpa [xsOf] using hk) h3 h2
  · exact hp k i (by simpa [xsOf] using hk) (by simpa [xsOf] using hi) h3 h2.symm
theorem pointsB_iff (ps : List (Int × Int)) : pointsB ps = true ↔ ∃ qs : List (B × B), ps = pp qs ∧ 1 ≤ qs.length ∧ qs.length ≤ 20 ∧ (xsOf qs).Nodup := by
  have hx : ∀ qs : List (B × B), ((pp qs).map Prod.fst) = (xsOf qs).map bi := fun qs => by unfold pp xsOf; rw [List.map_map, List.map_map]; rfl
  constructor
  · intro h
    unfold pointsB at h
    rw [Bool.and_eq_true, Bool.and_eq_true, Bool.and_eq_true] at h
    obtain ⟨h1, h2, h3, h4⟩ := h
    have e : ps = pp (ps.map fun p => (ib p.1, ib p.2)) := by
      unfold pp
      rw [List.map_map]
      have : ps.map ((fun q : B × B => (bi q.1, bi q.2)) ∘ fun p : Int × Int => (ib p.1, ib p.2)) = ps.map id := List.map_congr_left (fun p hp => by
        have := List.all_eq_true.1 h3 p hp
        unfold okP byteB at this
        rw [Bool.and_eq_true] at this
        have h5 := of_decide_eq_true this.1
        have h6 := of_decide_eq_true this.2
        show (bi (ib p.1), bi (ib p.2)) = p
        rw [bi_ib h5.1 h5.2, bi_ib h6.1 h6.2])
      rw [this, List.map_id]
    refine ⟨_, e, ?_, ?_, ?_⟩
    · rw [List.length_map]; exact of_decide_eq_true h1
    · rw [List.length_map]; exact of_decide_eq_true h2
    · have h7 := of_decide_eq_true h4
      rw [e, hx] at h7
      exact (List.pairwise_map.1 h7).imp (fun {a b} h h2 => h (congrArg bi h2))
  · rintro ⟨qs, rfl, h1, h2, h3⟩
    unfold pointsB
    rw [pp_length, decide_eq_true h1, decide_eq_true h2, hx]
    have h4 : ((xsOf qs).map bi).Nodup := (List.pairwise_map.2 (h3.imp (fun {a b} h h2 => h (bi_inj h2))))
    rw [decide_eq_true h4]
    have h5 : (pp qs).all okP = true := by
      rw [List.all_eq_true]
      intro p hp
      obtain ⟨q, _, rfl⟩ := List.mem_map.1 hp
      unfold okP byteB
      rw [decide_eq_true (bi_range q.1), decide_eq_true (bi_range q.2)]
      rfl
    rw [h5]
    rfl
def lagD (qs : List (B × B)) (i k : Nat) : B := inv (px qs i ^^^ px qs k)
def lagF (qs : List (B × B)) (i k : Nat) : List B := trim [mul (px qs k) (lagD qs i k), lagD qs i k]
/-- The i-th of the polynomials that are 1 at one place and 0 at the others, in the making. -/
def lagK (qs : List (B × B)) (i : Nat) : Nat → List B
  | 0 => [1]
  | k + 1 => if k = i then lagK qs i k else trim (mulP (lagK qs i k) (lagF qs i k))
def thrS (qs : List (B × B)) : Nat → List B
  | 0 => []
  | i + 1 => trim (addP (thrS qs i) (trim (mulP (lagK qs i qs.length) (trim [py qs i]))))
theorem trim_short {p : List B} {m : Nat} (h : ∀ i, m ≤ i → cf p i = 0) : (trim p).length ≤ m := by
  by_cases hp : trim p = []
  · rw [hp]; exact Nat.zero_le _
  · have h1 := right_last (trim_right p) hp
    rw [trim_same p] at h1
    by_cases hm : (trim p).length ≤ m
    · exact hm
    · exact absurd (h _ (by omega)) h1
theorem length_trim_mul (p q : List B) : (trim (mulP p q)).length ≤ p.length + q.length - 1 := by
  by_cases h : p.length + q.length = 0
  · have hp : p = [] := List.eq_nil_of_length_eq_zero (by omega)
    subst hp
    exact Nat.zero_le _
  · exact trim_short (fun i hi => cf_mulP_past p q i (by omega))
theorem lagF_length (qs : List (B × B)) (i k : Nat) : (lagF qs i k).length ≤ 2 := length_trim _
theorem lagK_length (qs : List (B × B)) (i : Nat) : ∀ k, (lagK qs i k).length ≤ k + 1
  | 0 => Nat.le_refl _
  | k + 1 => by
    have ih := lagK_length qs i k
    rw [lagK]
    split
    · omega
    · have := length_trim_mul (lagK qs i k) (lagF qs i k)
      have := lagF_length qs i k
      omega
/-- One less, where the place itself is passed. -/
theorem lagK_length' (qs : List (B × B)) (i : Nat) : ∀ k, i < k → (lagK qs i k).length ≤ k
  | 0, h => absurd h (Nat.not_lt_zero _)
  | k + 1, h => by
    rw [lagK]
    split
    · rename_i hk; exact lagK_length qs i k
    · rename_i hk
      have ih := lagK_length' qs i k (by omega)
      have := length_trim_mul (lagK qs i k) (lagF qs i k)
      have := lagF_length qs i k
      omega
theorem term_length (qs : List (B × B)) {i : Nat} (h : i < qs.length) : (trim (mulP (lagK qs i qs.length) (trim [py qs i]))).length ≤ qs.length := by
  have h1 := length_trim_mul (lagK qs i qs.length) (trim [py qs i])
  have h2 := lagK_length' qs i qs.length h
  have h3 : (trim [py qs i]).length ≤ 1 := length_trim _
  omega
theorem thrS_length (qs : List (B × B)) : ∀ i, i ≤ qs.length → (thrS qs i).length ≤ qs.length
  | 0, _ => Nat.zero_le _
  | i + 1, h => by
    have ih := thrS_length qs i (by omega)
    have ht := term_length qs (show i < qs.length by omega)
    rw [thrS]
    refine Nat.le_trans (length_trim _) ?_
    rw [length_addP]
    omega
theorem ev_lagF (qs : List (B × B)) (i k : Nat) (x : B) : ev (lagF qs i k) x = mul (x ^^^ px qs k) (lagD qs i k) := by
  unfold lagF
  rw [ev_trim, ev_cons, ev_cons]
  show _ ^^^ mul x (_ ^^^ mul x 0) = _
  rw [mul_zero, xor0, xor_mul, BitVec.xor_comm]
theorem ev_one (x : B) : ev [1] x = 1 := by
  rw [ev_cons]
  show (1 : B) ^^^ mul x 0 = 1
  rw [mul_zero, xor0]
theorem lagK_at {qs : List (B × B)} (h : (xsOf qs).Nodup) {i : Nat} (hi : i < qs.length) : ∀ k, k ≤ qs.length → ev (lagK qs i k) (px qs i) = 1
  | 0, _ => ev_one _
  | k + 1, hk => by
    have ih := lagK_at h hi k (by omega)
    rw [lagK]
    split
    · exact ih
    · rename_i hki
      rw [ev_trim, ev_mulP, ih, one_mul, ev_lagF]
      unfold lagD
      exact mul_inv (fun h2 => px_ne h hi (show k < qs.length by omega) (fun h3 => hki h3.symm) (xor_eq_zero h2))
theorem lagK_off {qs : List (B × B)} {i j : Nat} (hne : j ≠ i) : ∀ k, j < k → ev (lagK qs i k) (px qs j) = 0
  | 0, h => absurd h (Nat.not_lt_zero _)
  | k + 1, h => by
    rw [lagK]
    by_cases hjk : j = k
    · subst hjk
      rw [if_neg hne, ev_trim, ev_mulP, ev_lagF, xself, zero_mul, mul_zero]
    · have ih := lagK_off (qs := qs) hne k (by omega)
      split
      · exact ih
      · rw [ev_trim, ev_mulP, ih, zero_mul]
theorem ev_single (y x : B) : ev (trim [y]) x = y := by
  rw [ev_trim, ev_cons]
  show y ^^^ mul x 0 = y
  rw [mul_zero, xor0]
theorem thrS_at {qs : List (B × B)} (h : (xsOf qs).Nodup) {j : Nat} (hj : j < qs.length) : ∀ i, i ≤ qs.length → ev (thrS qs i) (px qs j) = if j < i then py qs j else 0
  | 0, _ => rfl
  | i + 1, hi => by
    have ih := thrS_at h hj i (by omega)
    rw [thrS, ev_trim, ev_addP, ih, ev_trim, ev_mulP, ev_single]
    by_cases hji : j = i
    · subst hji
      rw [if_neg (Nat.lt_irrefl _), if_pos (Nat.lt_succ_self _), lagK_at h hj _ (Nat.le_refl _), one_mul, zxor]
    · rw [lagK_off hji _ hj, zero_mul, xor0]
      by_cases h2 : j < i
      · rw [if_pos h2, if_pos (by omega)]
      · rw [if_neg h2, if_neg (by omega)]
theorem thrS_right (qs : List (B × B)) : ∀ i, Right (thrS qs i)
  | 0 => fun h => absurd rfl h
  | _ + 1 => trim_right _
/-- What is through points: the one polynomial that is as short. -/
theorem thr_unique {qs : List (B × B)} (h : (xsOf qs).Nodup) {p : List B} (hr : Right p) (hl : p.length ≤ qs.length) (he : ∀ j, j < qs.length → ev p (px qs j) = py qs j) : p = thrS qs qs.length := by
  refine right_eq hr (thrS_right qs _) (unique (xs := xsOf qs) h (by simpa [xsOf] using hl) (by simpa [xsOf] using thrS_length qs _ (Nat.le_refl _)) (fun x hx => ?_))
  obtain ⟨j, hj, rfl⟩ := List.getElem_of_mem hx
  have hj' : j < qs.length := by simpa [xsOf] using hj
  rw [xsOf_getElem hj', he j hj', thrS_at h hj' _ (Nat.le_refl _), if_pos hj']
/-! Places to vanish at. -/
def okX (z : Int) : Bool := decide (1 ≤ z ∧ z ≤ 255)
def xsB (zs : List Int) (most : Int) : Bool := decide ((zs.length : Int) ≤ most) && (zs.all okX && decide zs.Nodup)
theorem nodup_take1 {zs : List Int} {j : Nat} (hj : j < zs.length) (h : (zs.take j).Nodup) (hk : ∀ k, k < j → zs.getD k 0 ≠ zs.getD j 0) : (zs.take (j + 1)).Nodup := by
  have e : zs.take (j + 1) = zs.take j ++ [zs[j]] := (List.take_append_getElem hj).symm
  rw [e, List.nodup_append]
  refine ⟨h, by simp, fun a ha b hb => ?_⟩
  obtain ⟨k, hkl, rfl⟩ := List.getElem_of_mem ha
  simp only [List.mem_singleton] at hb
  subst hb
  have hkj : k < j := by rw [List.length_take] at hkl; omega
  have := hk k hkj
  rw [getD_mem _ (by omega), getD_mem _ hj] at this
  rw [List.getElem_take]
  exact this
theorem not_nodup1 {zs : List Int} {k j : Nat} (hj : j < zs.length) (hk : k < j) (h : zs.getD k 0 = zs.getD j 0) : ¬ zs.Nodup := by
  intro hn
  rw [getD_mem _ (by omega), getD_mem _ hj] at h
  exact List.pairwise_iff_getElem.1 hn k j (by omega) hj hk h
theorem not_all1 {zs : List Int} {j : Nat} (hj : j < zs.length) (h : okX (zs.getD j 0) = false) : zs.all okX = false := by
  rw [List.all_eq_false]
  exact ⟨zs.getD j 0, by rw [getD_mem _ hj]; exact List.getElem_mem _, by rw [h]; exact Bool.false_ne_true⟩
theorem all_of1 {zs : List Int} (h : ∀ t, t < zs.length → okX (zs.getD t 0) = true) : zs.all okX = true := by
  rw [List.all_eq_true]
  intro p hp
  obtain ⟨t, ht, rfl⟩ := List.getElem_of_mem hp
  have := h t ht
  rwa [getD_mem _ ht] at this
theorem xsB_iff (zs : List Int) (most : Int) : xsB zs most = true ↔ ∃ xs : List B, zs = pv xs ∧ (xs.length : Int) ≤ most ∧ (∀ x ∈ xs, x ≠ 0) ∧ xs.Nodup := by
  constructor
  · intro h
    unfold xsB at h
    rw [Bool.and_eq_true, Bool.and_eq_true] at h
    obtain ⟨h1, h2, h3⟩ := h
    have hb : zs.all byteB = true := by
      rw [List.all_eq_true]
      intro z hz
      have := List.all_eq_true.1 h2 z hz
      unfold okX at this
      have := of_decide_eq_true this
      exact decide_eq_true (by omega)
    obtain ⟨xs, rfl⟩ := all_bytes hb
    refine ⟨xs, rfl, ?_, fun x hx h0 => ?_, ?_⟩
    · have := of_decide_eq_true h1
      rwa [pv_length] at this
    · have := List.all_eq_true.1 h2 (bi x) (List.mem_map_of_mem hx)
      subst h0
      unfold okX at this
      have := of_decide_eq_true this
      rw [bi_zero] at this
      omega
    · have := of_decide_eq_true h3
      exact (List.pairwise_map.1 this).imp (fun {a b} h h2 => h (congrArg bi h2))
  · rintro ⟨xs, rfl, h1, h2, h3⟩
    have h4 : (pv xs).Nodup := List.pairwise_map.2 (h3.imp (fun {a b} h h2 => h (bi_inj h2)))
    have h5 : (pv xs).all okX = true := by
      rw [List.all_eq_true]
      intro z hz
      obtain ⟨x, hx, rfl⟩ := List.mem_map.1 hz
      have h6 := bi_range x
      have h7 : bi x ≠ 0 := fun h8 => h2 x hx (bi_inj (h8.trans bi_zero.symm))
      exact decide_eq_true ⟨by omega, h6.2⟩
    unfold xsB
    rw [pv_length, decide_eq_true h1, h5, decide_eq_true h4]
    rfl
/-- What is 0 at some places, and 1 at 0. -/
def vanS (xs : List B) : Nat → List B
  | 0 => [1]
  | i + 1 => trim (mulP (vanS xs i) [1, inv (cf xs i)])
theorem vanS_length (xs : List B) : ∀ i, (vanS xs i).length ≤ i + 1
  | 0 => Nat.le_refl _
  | i + 1 => by
    have ih := vanS_length xs i
    rw [vanS]
    have h := length_trim_mul (vanS xs i) [1, inv (cf xs i)]
    have h2 : [(1 : B), inv (cf xs i)].length = 2 := rfl
    omega
theorem ev_pair (d x : B) : ev [1, d] x = 1 ^^^ mul x d := by
  rw [ev_cons, ev_cons]
  show (1 : B) ^^^ mul x (d ^^^ mul x 0) = _
  rw [mul_zero, xor0]
theorem vanS_zero (xs : List B) : ∀ i, ev (vanS xs i) 0 = 1
  | 0 => ev_one 0
  | i + 1 => by rw [vanS, ev_trim, ev_mulP, vanS_zero xs i, one_mul, ev_pair, zero_mul, xor0]
theorem vanS_at {xs : List B} {j : Nat} (h : cf xs j ≠ 0) : ∀ i, j < i → ev (vanS xs i) (cf xs j) = 0
  | 0, hi => absurd hi (Nat.not_lt_zero _)
  | i + 1, hi => by
    rw [vanS, ev_trim, ev_mulP]
    by_cases hji : j = i
    · subst hji
      rw [ev_pair, mul_inv h, xself, mul_zero]
    · rw [vanS_at h i (by omega), zero_mul]
end Go.Proofs.Ytfplfkebamgniaa.MGF
