/- Polynomials over bytes: lists, the lowest first. Nothing of the program stands here. -/
import Derived.Test.YtfplfkebamgniaaMGF2
namespace Go.Proofs.Ytfplfkebamgniaa.MGF
theorem xor0 (x : B) : x ^^^ (0 : B) = x := BitVec.xor_zero
theorem zxor (x : B) : (0 : B) ^^^ x = x := BitVec.zero_xor
theorem xself (x : B) : x ^^^ x = (0 : B) := BitVec.xor_self
theorem xor_self4 (a b c d : B) : (a ^^^ b) ^^^ (c ^^^ d) = (a ^^^ c) ^^^ (b ^^^ d) := by
  rw [BitVec.xor_assoc, BitVec.xor_assoc, ← BitVec.xor_assoc b, BitVec.xor_comm b c, BitVec.xor_assoc c]
/-- What a polynomial is at a place. -/
def ev : List B → B → B
  | [], _ => 0
  | c :: p, x => c ^^^ mul x (ev p x)
theorem ev_cons (c : B) (p : List B) (x : B) : ev (c :: p) x = c ^^^ mul x (ev p x) := rfl
def cf (p : List B) (i : Nat) : B := p.getD i 0
theorem cf_nil (i : Nat) : cf [] i = 0 := by simp [cf]
theorem cf_zero (c : B) (p : List B) : cf (c :: p) 0 = c := by simp [cf]
theorem cf_succ (c : B) (p : List B) (i : Nat) : cf (c :: p) (i + 1) = cf p i := by simp [cf]
theorem cf_past {p : List B} {i : Nat} (h : p.length ≤ i) : cf p i = 0 := by simp [cf, h]
/-- Two lists that tell one polynomial. -/
def Same (p q : List B) : Prop := ∀ i, cf p i = cf q i
theorem Same.refl (p : List B) : Same p p := fun _ => rfl
theorem Same.symm {p q : List B} (h : Same p q) : Same q p := fun i => (h i).symm
theorem Same.trans {p q r : List B} (h : Same p q) (k : Same q r) : Same p r := fun i => (h i).trans (k i)
theorem Same.tail {c d : B} {p q : List B} (h : Same (c :: p) (d :: q)) : c = d ∧ Same p q :=
  ⟨by simpa [cf_zero] using h 0, fun i => by simpa [cf_succ] using h (i + 1)⟩
theorem ev_zero_of {p : List B} (h : ∀ i, cf p i = 0) (x : B) : ev p x = 0 := by
  induction p with
  | nil => rfl
  | cons c p ih =>
    rw [ev, ih (fun i => by rw [← cf_succ c]; exact h (i + 1)), mul_zero]
    have := h 0
    rw [cf_zero] at this
    rw [this]
    rfl
theorem Same.ev {p q : List B} (h : Same p q) (x : B) : ev p x = ev q x := by
  induction p generalizing q with
  | nil => exact (ev_zero_of (fun i => by rw [← h i, cf_nil]) x).symm
  | cons c p ih =>
    cases q with
    | nil => exact ev_zero_of (fun i => by rw [h i, cf_nil]) x
    | cons d q =>
      obtain ⟨h1, h2⟩ := h.tail
      rw [MGF.ev, MGF.ev, h1, ih h2]
/-- Sums. -/
def addP : List B → List B → List B
  | [], q => q
  | c :: p, [] => c :: p
  | c :: p, d :: q => (c ^^^ d) :: addP p q
theorem addP_nil (p : List B) : addP p [] = p := by cases p <;> rfl
theorem cf_addP (p q : List B) (i : Nat) : cf (addP p q) i = cf p i ^^^ cf q i := by
  induction p generalizing q i with
  | nil => rw [addP, cf_nil, zxor]
  | cons c p ih =>
    cases q with
    | nil => rw [addP_nil, cf_nil, xor0]
    | cons d q =>
      cases i with
      | zero => rw [addP, cf_zero, cf_zero, cf_zero]
      | succ i => rw [addP, cf_succ, cf_succ, cf_succ, ih]
theorem length_addP (p q : List B) : (addP p q).length = max p.length q.length := by
  induction p generalizing q with
  | nil => simp [addP]
  | cons c p ih =>
    cases q with
    | nil => simp [addP]
    | cons d q => simp only [addP, List.length_cons, ih]; omega
theorem ev_addP (p q : List B) (x : B) : ev (addP p q) x = ev p x ^^^ ev q x := by
  induction p generalizing q with
  | nil => rw [addP, ev, zxor]
  | cons c p ih =>
    cases q with
    | nil => rw [addP_nil]; show _ = _ ^^^ (0 : B); rw [xor0]
    | cons d q => rw [addP, ev, ev, ev, ih, mul_xor, xor_self4]
/-- Products. -/
def scale (c : B) (p : List B) : List B := p.map (mul c)
theorem cf_scale (c : B) (p : List B) (i : Nat) : cf (scale c p) i = mul c (cf p i) := by
  unfold scale cf
  rw [List.getD_eq_getElem?_getD, List.getElem?_map, List.getD_eq_getElem?_getD]
  cases p[i]? with
  | none => exact (mul_zero c).symm
  | some a => rfl
theorem ev_scale (c : B) (p : List B) (x : B) : ev (scale c p) x = mul c (ev p x) := by
  induction p with
  | nil => exact (mul_zero c).symm
  | cons d p ih =>
    show mul c d ^^^ mul x (ev (scale c p) x) = _
    rw [ih, ev, mul_xor, ← mul_assoc, ← mul_assoc, mul_comm x c]
def mulP : List B → List B → List B
  | [], _ => []
  | c :: p, q => addP (scale c q) (0 :: mulP p q)
theorem ev_mulP (p q : List B) (x : B) : ev (mulP p q) x = mul (ev p x) (ev q x) := by
  induction p with
  | nil => exact (zero_mul _).symm
  | cons c p ih => rw [mulP, ev_addP, ev_scale, ev, ev, ih, zxor, xor_mul, mul_assoc]
theorem Same.addP {p p' q q' : List B} (h : Same p p') (k : Same q q') : Same (addP p q) (addP p' q') := fun i => by rw [cf_addP, cf_addP, h i, k i]
/-- A polynomial divided by what is 0 at r. -/
def dv : List B → B → List B
  | [], _ => []
  | [_], _ => []
  | _ :: d :: p, r => ev (d :: p) r :: dv (d :: p) r
theorem length_dv (p : List B) (r : B) : (dv p r).length = p.length - 1 := by
  induction p with
  | nil => rfl
  | cons c p ih =>
    cases p with
    | nil => rfl
    | cons d p => rw [dv, List.length_cons, ih]; simp
theorem ev_dv (p : List B) (r x : B) : ev p x = mul (x ^^^ r) (ev (dv p r) x) ^^^ ev p r := by
  induction p with
  | nil => show (0 : B) = mul _ 0 ^^^ 0; rw [mul_zero]; rfl
  | cons c p ih =>
    cases p with
    | nil => show c ^^^ mul x 0 = mul _ 0 ^^^ (c ^^^ mul r 0); rw [mul_zero, mul_zero, mul_zero, zxor]
    | cons d p =>
      rw [ev_cons c, dv, ev_cons c (d :: p) r, ih, ev_cons (ev (d :: p) r)]
      generalize ev (d :: p) r = b
      generalize ev (dv (d :: p) r) x = a
      rw [mul_xor, mul_xor, ← mul_assoc, ← mul_assoc, mul_comm x (x ^^^ r), xor_mul x r b]
      generalize mul (mul (x ^^^ r) x) a = m
      generalize mul x b = s
      generalize mul r b = t
      apply BitVec.eq_of_getLsbD_eq
      intro i hi
      simp only [BitVec.getLsbD_xor]
      cases c.getLsbD i <;> cases m.getLsbD i <;> cases s.getLsbD i <;> cases t.getLsbD i <;> rfl
theorem zero_of_dv {p : List B} {r : B} (h : ∀ i, cf (dv p r) i = 0) (h0 : ev p r = 0) : ∀ i, cf p i = 0 := by
  induction p with
  | nil => exact cf_nil
  | cons c p ih =>
    cases p with
    | nil =>
      intro i
      have hc : c ^^^ mul r 0 = 0 := h0
      rw [mul_zero, xor0] at hc
      cases i with
      | zero => rw [cf_zero]; exact hc
      | succ i => rw [cf_succ, cf_nil]
    | cons d p =>
      rw [dv] at h
      have h1 : ev (d :: p) r = 0 := by have := h 0; rwa [cf_zero] at this
      have h2 := ih (fun i => by have := h (i + 1); rwa [cf_succ] at this) h1
      intro i
      rw [ev_cons c, h1, mul_zero, xor0] at h0
      cases i with
      | zero => rw [cf_zero]; exact h0
      | succ i => rw [cf_succ]; exact h2 i
theorem xor_eq_zero {x y : B} (h : x ^^^ y = 0) : x = y := by
  have : x ^^^ y ^^^ y = 0 ^^^ y := by rw [h]
  rwa [BitVec.xor_assoc, xself, xor0, zxor] at this
/-- A polynomial with as many places at which it is 0 as it is long is 0. -/
theorem zero_of_roots : ∀ (xs p : List B), p.length ≤ xs.length → xs.Nodup → (∀ x ∈ xs, ev p x = 0) → ∀ i, cf p i = 0
  | [], p, hl, _, _ => fun i => cf_past (by simp at hl; simp [hl])
  | r :: xs, p, hl, hn, hz => by
    have hr := hz r (List.mem_cons_self ..)
    obtain ⟨hnr, hn'⟩ := List.nodup_cons.1 hn
    refine zero_of_dv (r := r) (zero_of_roots xs (dv p r) (by rw [length_dv]; simp at hl; omega) hn' (fun x hx => ?_)) hr
    have h1 := ev_dv p r x
    rw [hz x (List.mem_cons_of_mem _ hx), hr, xor0] at h1
    rcases mul_eq_zero h1.symm with h2 | h2
    · exact absurd (xor_eq_zero h2) (fun h3 => hnr (h3 ▸ hx))
    · exact h2
/-- Through some points there is at most one polynomial that is as short. -/
theorem unique {xs p q : List B} (hn : xs.Nodup) (hp : p.length ≤ xs.length) (hq : q.length ≤ xs.length) (h : ∀ x ∈ xs, ev p x = ev q x) : Same p q := by
  have hz := zero_of_roots xs (addP p q) (by rw [length_addP]; omega) hn (fun x hx => by rw [ev_addP, h x hx, xself])
  intro i
  have := hz i
  rw [cf_addP] at this
  exact xor_eq_zero this
/-- Without what is 0 at the end. -/
def trim : List B → List B
  | [] => []
  | c :: p => match trim p with
    | [] => if c = 0 then [] else [c]
    | d :: q => c :: d :: q
theorem trim_same (p : List B) : Same (trim p) p := by
  induction p with
  | nil => exact Same.refl _
  | cons c p ih =>
    intro i
    unfold trim
    cases ht : trim p with
    | nil =>
      rw [ht] at ih
      simp only
      split
      · rename_i hc
        cases i with
        | zero => rw [cf_nil, cf_zero, hc]
        | succ i => rw [cf_nil, cf_succ, ← ih i, cf_nil]
      · cases i with
        | zero => rw [cf_zero, cf_zero]
        | succ i => rw [cf_succ, cf_succ, ih i]
    | cons d q =>
      rw [ht] at ih
      cases i with
      | zero => rw [cf_zero, cf_zero]
      | succ i => rw [cf_succ, cf_succ, ih i]
/-- The last one is not 0. -/
def Right (p : List B) : Prop := ∀ h : p ≠ [], p.getLast h ≠ 0
theorem trim_right (p : List B) : Right (trim p) := by
  induction p with
  | nil => intro h; exact absurd rfl h
  | cons c p ih =>
    unfold trim
    cases ht : trim p with
    | nil =>
      simp only
      split
      · intro h; exact absurd rfl h
      · rename_i hc; intro _; simpa using hc
    | cons d q =>
      rw [ht] at ih
      intro _
      have := ih (by simp)
      simpa using this
theorem length_trim (p : List B) : (trim p).length ≤ p.length := by
  induction p with
  | nil => exact Nat.le_refl _
  | cons c p ih =>
    unfold trim
    cases ht : trim p with
    | nil => simp only; split <;> simp
    | cons d q => rw [ht] at ih; simp at ih ⊢; omega
theorem right_last {p : List B} (hr : Right p) (h : p ≠ []) : cf p (p.length - 1) ≠ 0 := by
  have := hr h
  rw [List.getLast_eq_getElem] at this
  unfold cf
  have hl : p.length - 1 < p.length := by cases p with | nil => exact absurd rfl h | cons _ _ => simp
  rw [List.getD_eq_getElem?_getD, List.getElem?_eq_getElem hl]
  exact this
theorem right_short {p q : List B} (hr : Right p) (hs : Same p q) : p.length ≤ q.length := by
  by_cases hp : p = []
  · simp [hp]
  · have h1 := right_last hr hp
    rw [hs] at h1
    have hl : 0 < p.length := List.length_pos_iff.2 hp
    by_cases h : p.length ≤ q.length
    · exact h
    · exact absurd (cf_past (by omega)) h1
/-- A right polynomial is told by one list alone. -/
theorem right_eq {p q : List B} (hp : Right p) (hq : Right q) (h : Same p q) : p = q := by
  have hl : p.length = q.length := Nat.le_antisymm (right_short hp h) (right_short hq h.symm)
  refine List.ext_getElem hl (fun i h1 h2 => ?_)
  have := h i
  unfold cf at this
  rwa [List.getD_eq_getElem?_getD, List.getD_eq_getElem?_getD, List.getElem?_eq_getElem h1, List.getElem?_eq_getElem h2] at this
theorem trim_eq {p q : List B} (h : Same p q) : trim p = trim q := right_eq (trim_right p) (trim_right q) ((trim_same p).trans (h.trans (trim_same q).symm))
theorem trim_of_right {p : List B} (h : Right p) : trim p = p := right_eq (trim_right p) h (trim_same p)
theorem ev_trim (p : List B) (x : B) : ev (trim p) x = ev p x := (trim_same p).ev x
end Go.Proofs.Ytfplfkebamgniaa.MGF
