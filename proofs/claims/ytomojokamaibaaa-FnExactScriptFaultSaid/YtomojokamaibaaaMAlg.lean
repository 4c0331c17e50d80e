/- Bytes that can be divided: they are a field. Nothing of the program stands here. -/
import Derived.Test.YtomojokamaibaaaMGF
namespace Go.Proofs.Ytomojokamaibaaa.MGF
theorem gm_tm {a b : Nat} (ha : a < 256) (hb : b < 256) : gm a b = tmB a b := by
  have h1 := allB_of _ 8 0 gm_tm_all a ha
  rw [Nat.zero_add] at h1
  have h2 := allB_of _ 8 0 h1 b hb
  rw [Nat.zero_add] at h2
  exact Nat.eq_of_beq_eq_true h2
theorem tmB_zero (b : Nat) : tmB 0 b = 0 := rfl
theorem tmB_zero' (a : Nat) : tmB a 0 = 0 := by cases a <;> rfl
theorem tmB_pos {a b : Nat} (ha : a ≠ 0) (hb : b ≠ 0) : tmB a b = ex ((lg a + lg b) % 255) := by
  obtain ⟨n, rfl⟩ := Nat.exists_eq_succ_of_ne_zero ha
  obtain ⟨m, rfl⟩ := Nat.exists_eq_succ_of_ne_zero hb
  rfl
theorem ex_all : allB (fun i => Nat.beq i 255 || (Nat.ble 1 (ex i) && Nat.ble (ex i) 255 && Nat.beq (lg (ex i)) i)) 8 0 = true := by kernel_rfl
theorem lg_all : allB (fun a => Nat.beq a 0 || (Nat.ble (lg a) 254 && Nat.beq (ex (lg a)) a)) 8 0 = true := by kernel_rfl
theorem ex_fact {i : Nat} (h : i < 255) : 1 ≤ ex i ∧ ex i ≤ 255 ∧ lg (ex i) = i := by
  have h1 := allB_of _ 8 0 ex_all i (by omega)
  rw [Nat.zero_add, Bool.or_eq_true, Bool.and_eq_true, Bool.and_eq_true] at h1
  rcases h1 with h1 | ⟨⟨h1, h2⟩, h3⟩
  · have := Nat.eq_of_beq_eq_true h1; omega
  · exact ⟨Nat.le_of_ble_eq_true h1, Nat.le_of_ble_eq_true h2, Nat.eq_of_beq_eq_true h3⟩
theorem lg_fact {a : Nat} (h : a < 256) (h0 : a ≠ 0) : lg a < 255 ∧ ex (lg a) = a := by
  have h1 := allB_of _ 8 0 lg_all a h
  rw [Nat.zero_add, Bool.or_eq_true, Bool.and_eq_true] at h1
  rcases h1 with h1 | ⟨h1, h2⟩
  · exact absurd (Nat.eq_of_beq_eq_true h1) h0
  · have := Nat.le_of_ble_eq_true h1
    exact ⟨by omega, Nat.eq_of_beq_eq_true h2⟩
theorem ex_zero : ex 0 = 1 := by decide
theorem lg_one : lg 1 = 0 := by decide
theorem gmTo_xor (a b c : Nat) : ∀ n, gmTo a (b ^^^ c) n = gmTo a b n ^^^ gmTo a c n := by
  intro n
  induction n generalizing a b c with
  | zero => simp [gmTo]
  | succ n ih =>
    have e1 : (b ^^^ c) / 2 = b / 2 ^^^ c / 2 := Nat.xor_div_two
    have e2 : (b ^^^ c) % 2 * a = (b % 2 * a) ^^^ (c % 2 * a) := by
      have h : (b ^^^ c) % 2 = b % 2 ^^^ c % 2 := Nat.xor_mod_two_pow (n := 1)
      rw [h]
      rcases Nat.mod_two_eq_zero_or_one b with hb | hb <;> rcases Nat.mod_two_eq_zero_or_one c with hc | hc <;> rw [hb, hc] <;> simp
    rw [gmTo, gmTo, gmTo, e1, e2, ih]
    simp only [Nat.xor_assoc]
    congr 1
    rw [← Nat.xor_assoc, Nat.xor_comm (c % 2 * a), Nat.xor_assoc]
theorem gm_lt {a b : Nat} (ha : a < 256) (hb : b < 256) : gm a b < 256 := by
  rw [gm_tm ha hb]
  by_cases h0 : a = 0
  · subst h0; rw [tmB_zero]; decide
  · by_cases h1 : b = 0
    · subst h1; rw [tmB_zero']; decide
    · rw [tmB_pos h0 h1]
      have := ex_fact (show (lg a + lg b) % 255 < 255 from Nat.mod_lt _ (by decide))
      omega
/-! Bytes as such. -/
abbrev B := BitVec 8
def mul (x y : B) : B := BitVec.ofNat 8 (gm x.toNat y.toNat)
def inv (x : B) : B := BitVec.ofNat 8 (ex ((255 - lg x.toNat) % 255))
def E (i : Nat) : B := BitVec.ofNat 8 (ex (i % 255))
def L (x : B) : Nat := lg x.toNat
theorem mul_toNat (x y : B) : (mul x y).toNat = gm x.toNat y.toNat := by
  unfold mul
  rw [BitVec.toNat_ofNat]
  exact Nat.mod_eq_of_lt (gm_lt x.isLt y.isLt)
theorem E_toNat (i : Nat) : (E i).toNat = ex (i % 255) := by
  unfold E
  rw [BitVec.toNat_ofNat]
  have := ex_fact (show i % 255 < 255 from Nat.mod_lt _ (by decide))
  exact Nat.mod_eq_of_lt (by omega)
theorem E_ne (i : Nat) : E i ≠ 0 := by
  intro h
  have := E_toNat i
  have h2 := ex_fact (show i % 255 < 255 from Nat.mod_lt _ (by decide))
  rw [h] at this
  simp at this
  omega
theorem L_E (i : Nat) : L (E i) = i % 255 := by
  unfold L
  rw [E_toNat]
  exact (ex_fact (Nat.mod_lt _ (by decide))).2.2
theorem toNat_ne {x : B} (h : x ≠ 0) : x.toNat ≠ 0 := fun h2 => h (BitVec.eq_of_toNat_eq (by simpa using h2))
theorem L_lt {x : B} (h : x ≠ 0) : L x < 255 := (lg_fact x.isLt (toNat_ne h)).1
theorem E_L {x : B} (h : x ≠ 0) : E (L x) = x := by
  apply BitVec.eq_of_toNat_eq
  rw [E_toNat, Nat.mod_eq_of_lt (L_lt h)]
  exact (lg_fact x.isLt (toNat_ne h)).2
theorem E_mod (i : Nat) : E (i % 255) = E i := by unfold E; rw [Nat.mod_mod]
theorem zero_mul (y : B) : mul 0 y = 0 := by
  apply BitVec.eq_of_toNat_eq
  rw [mul_toNat, gm_tm (BitVec.isLt _) (BitVec.isLt _)]
  rfl
theorem mul_zero (x : B) : mul x 0 = 0 := by
  apply BitVec.eq_of_toNat_eq
  rw [mul_toNat, gm_tm (BitVec.isLt _) (BitVec.isLt _)]
  exact tmB_zero' _
theorem mul_E {x y : B} (hx : x ≠ 0) (hy : y ≠ 0) : mul x y = E (L x + L y) := by
  apply BitVec.eq_of_toNat_eq
  rw [mul_toNat, gm_tm (BitVec.isLt _) (BitVec.isLt _), tmB_pos (toNat_ne hx) (toNat_ne hy), E_toNat]
  rfl
theorem mul_ne {x y : B} (hx : x ≠ 0) (hy : y ≠ 0) : mul x y ≠ 0 := by rw [mul_E hx hy]; exact E_ne _
theorem E_mul (i j : Nat) : mul (E i) (E j) = E (i + j) := by
  rw [mul_E (E_ne _) (E_ne _), L_E, L_E, ← E_mod (i + j), ← E_mod (i % 255 + j % 255), Nat.add_mod i j]
theorem mul_comm (x y : B) : mul x y = mul y x := by
  by_cases hx : x = 0
  · rw [hx, zero_mul, mul_zero]
  · by_cases hy : y = 0
    · rw [hy, zero_mul, mul_zero]
    · rw [mul_E hx hy, mul_E hy hx, Nat.add_comm]
theorem mul_assoc (x y z : B) : mul (mul x y) z = mul x (mul y z) := by
  by_cases hx : x = 0
  · rw [hx, zero_mul, zero_mul, zero_mul]
  · by_cases hy : y = 0
    · rw [hy, mul_zero, zero_mul, mul_zero]
    · by_cases hz : z = 0
      · rw [hz, mul_zero, mul_zero, mul_zero]
      · rw [← E_L hx, ← E_L hy, ← E_L hz, E_mul, E_mul, E_mul, E_mul, Nat.add_assoc]
theorem E_zero : E 0 = 1 := by decide
theorem mul_one (x : B) : mul x 1 = x := by
  by_cases hx : x = 0
  · rw [hx, zero_mul]
  · rw [← E_zero]
    have h := E_mul (L x) 0
    rw [E_L hx] at h
    rw [h, Nat.add_zero, E_L hx]
theorem one_mul (x : B) : mul 1 x = x := by rw [mul_comm, mul_one]
theorem mul_xor (x y z : B) : mul x (y ^^^ z) = mul x y ^^^ mul x z := by
  apply BitVec.eq_of_toNat_eq
  rw [BitVec.toNat_xor, mul_toNat, mul_toNat, mul_toNat, BitVec.toNat_xor]
  exact gmTo_xor _ _ _ _
theorem xor_mul (x y z : B) : mul (x ^^^ y) z = mul x z ^^^ mul y z := by rw [mul_comm, mul_xor, mul_comm z, mul_comm z]
theorem inv_E {x : B} (_ : x ≠ 0) : inv x = E (255 - L x) := rfl
theorem inv_ne {x : B} (h : x ≠ 0) : inv x ≠ 0 := by rw [inv_E h]; exact E_ne _
theorem mul_inv {x : B} (h : x ≠ 0) : mul x (inv x) = 1 := by
  have hl := L_lt h
  have e := E_mul (L x) (255 - L x)
  rw [E_L h] at e
  rw [inv_E h, e, show L x + (255 - L x) = 255 by omega, ← E_mod, show 255 % 255 = 0 from rfl, E_zero]
theorem mul_eq_zero {x y : B} (h : mul x y = 0) : x = 0 ∨ y = 0 := by
  by_cases hx : x = 0
  · exact Or.inl hx
  · by_cases hy : y = 0
    · exact Or.inr hy
    · exact absurd h (mul_ne hx hy)
def pw (x : B) : Nat → B
  | 0 => 1
  | n + 1 => mul x (pw x n)
theorem pw_E (i n : Nat) : pw (E i) n = E (i * n) := by
  induction n with
  | zero => rw [pw, Nat.mul_zero, E_zero]
  | succ n ih => rw [pw, ih, E_mul, Nat.mul_succ, Nat.add_comm]
theorem pw_zero {n : Nat} (h : n ≠ 0) : pw 0 n = 0 := by
  obtain ⟨m, rfl⟩ := Nat.exists_eq_succ_of_ne_zero h
  rw [pw, zero_mul]
theorem pw_add (x : B) (m n : Nat) : pw x (m + n) = mul (pw x m) (pw x n) := by
  induction m with
  | zero => rw [Nat.zero_add, pw, one_mul]
  | succ m ih => rw [show m + 1 + n = (m + n) + 1 by omega, pw, pw, ih, mul_assoc]
theorem pw_double (x : B) (n : Nat) : pw (mul x x) n = pw x (2 * n) := by
  induction n with
  | zero => rfl
  | succ n ih => rw [show 2 * (n + 1) = 2 * n + 1 + 1 by omega, pw, pw, pw, ih, mul_assoc]
theorem pw_inv {x : B} (h : x ≠ 0) : pw x 254 = inv x := by
  have hl := L_lt h
  have e := pw_E (L x) 254
  rw [E_L h] at e
  rw [e, inv_E h, ← E_mod (L x * 254), ← E_mod (255 - L x)]
  congr 1
  omega
theorem pw_255 {x : B} (h : x ≠ 0) : pw x 255 = 1 := by
  have e := pw_E (L x) 255
  rw [E_L h] at e
  rw [e, ← E_mod, Nat.mul_mod_left, E_zero]
end Go.Proofs.Ytomojokamaibaaa.MGF
/- Polynomials over bytes: lists, the lowest first. Nothing of the program stands here. -/
namespace Go.Proofs.Ytomojokamaibaaa.MGF
theorem xor0 (x : B) : x ^^^ (0 : B) = x := BitVec.xor_zero
theorem zxor (x : B) : (0 : B) ^^^ x = x := BitVec.zero_xor
theorem xself (x : B) : x ^^^ x = (0 : B) := BitVec.xor_self
theorem xor_self4 (a b c d : B) : (a ^^^ b) ^^^ (c ^^^ d) = (a ^^^ c) ^^^ (b ^^^ d) := by
  rw [BitVec.xor_assoc, BitVec.xor_assoc, ← BitVec.xor_assoc b, BitVec.xor_comm b c, BitVec.xor_assoc c]
/-- What a polynomial is at a place. -/
def ev : List B → B → B
  | [], _ => 0
  | c :: p, x => c ^^^ mul x (ev p x)
theorem ev_cons (c : B) (p : List B) (x : B) : ev (c :: p) x = c ^^^ mul x (ev p x) := rfl
def cf (p : List B) (i : Nat) : B := p.getD i 0
theorem cf_nil (i : Nat) : cf [] i = 0 := by simp [cf]
theorem cf_zero (c : B) (p : List B) : cf (c :: p) 0 = c := by simp [cf]
theorem cf_succ (c : B) (p : List B) (i : Nat) : cf (c :: p) (i + 1) = cf p i := by simp [cf]
theorem cf_past {p : List B} {i : Nat} (h : p.length ≤ i) : cf p i = 0 := by simp [cf, h]
/-- Two lists that tell one polynomial. -/
def Same (p q : List B) : Prop := ∀ i, cf p i = cf q i
theorem Same.refl (p : List B) : Same p p := fun _ => rfl
theorem Same.symm {p q : List B} (h : Same p q) : Same q p := fun i => (h i).symm
theorem Same.trans {p q r : List B} (h : Same p q) (k : Same q r) : Same p r := fun i => (h i).trans (k i)
theorem Same.tail {c d : B} {p q : List B} (h : Same (c :: p) (d :: q)) : c = d ∧ Same p q :=
  ⟨by simpa [cf_zero] using h 0, fun i => by simpa [cf_succ] using h (i + 1)⟩
theorem ev_zero_of {p : List B} (h : ∀ i, cf p i = 0) (x : B) : ev p x = 0 := by
  induction p with
  | nil => rfl
  | cons c p ih =>
    rw [ev, ih (fun i => by rw [← cf_succ c]; exact h (i + 1)), mul_zero]
    have := h 0
    rw [cf_zero] at this
    rw [this]
    rfl
theorem Same.ev {p q : List B} (h : Same p q) (x : B) : ev p x = ev q x := by
  induction p generalizing q with
  | nil => exact (ev_zero_of (fun i => by rw [← h i, cf_nil]) x).symm
  | cons c p ih =>
    cases q with
    | nil => exact ev_zero_of (fun i => by rw [h i, cf_nil]) x
    | cons d q =>
      obtain ⟨h1, h2⟩ := h.tail
      rw [MGF.ev, MGF.ev, h1, ih h2]
/-- Sums. -/
def addP : List B → List B → List B
  | [], q => q
  | c :: p, [] => c :: p
  | c :: p, d :: q => (c ^^^ d) :: addP p q
theorem addP_nil (p : List B) : addP p [] = p := by cases p <;> rfl
theorem cf_addP (p q : List B) (i : Nat) : cf (addP p q) i = cf p i ^^^ cf q i := by
  induction p generalizing q i with
  | nil => rw [addP, cf_nil, zxor]
  | cons c p ih =>
    cases q with
    | nil => rw [addP_nil, cf_nil, xor0]
    | cons d q =>
      cases i with
      | zero => rw [addP, cf_zero, cf_zero, cf_zero]
      | succ i => rw [addP, cf_succ, cf_succ, cf_succ, ih]
theorem length_addP (p q : List B) : (addP p q).length = max p.length q.length := by
  induction p generalizing q with
  | nil => simp [addP]
  | cons c p ih =>
    cases q with
    | nil => simp [addP]
    | cons d q => simp only [addP, List.length_cons, ih]; omega
theorem ev_addP (p q : List B) (x : B) : ev (addP p q) x = ev p x ^^^ ev q x := by
  induction p generalizing q with
  | nil => rw [addP, ev, zxor]
  | cons c p ih =>
    cases q with
    | nil => rw [addP_nil]; show _ = _ ^^^ (0 : B); rw [xor0]
    | cons d q => rw [addP, ev, ev, ev, ih, mul_xor, xor_self4]
/-- Products. -/
def scale (c : B) (p : List B) : List B := p.map (mul c)
theorem cf_scale (c : B) (p : List B) (i : Nat) : cf (scale c p) i = mul c (cf p i) := by
  unfold scale cf
  rw [List.getD_eq_getElem?_getD, List.getElem?_map, List.getD_eq_getElem?_getD]
  cases p[i]? with
  | none => exact (mul_zero c).symm
  | some a => rfl
theorem ev_scale (c : B) (p : List B) (x : B) : ev (scale c p) x = mul c (ev p x) := by
  induction p with
  | nil => exact (mul_zero c).symm
  | cons d p ih =>
    show mul c d ^^^ mul x (ev (scale c p) x) = _
    rw [ih, ev, mul_xor, ← mul_assoc, ← mul_assoc, mul_comm x c]
def mulP : List B → List B → List B
  | [], _ => []
  | c :: p, q => addP (scale c q) (0 :: mulP p q)
theorem ev_mulP (p q : List B) (x : B) : ev (mulP p q) x = mul (ev p x) (ev q x) := by
  induction p with
  | nil => exact (zero_mul _).symm
  | cons c p ih => rw [mulP, ev_addP, ev_scale, ev, ev, ih, zxor, xor_mul, mul_assoc]
theorem Same.addP {p p' q q' : List B} (h : Same p p') (k : Same q q') : Same (addP p q) (addP p' q') := fun i => by rw [cf_addP, cf_addP, h i, k i]
/-- A polynomial divided by what is 0 at r. -/
def dv : List B → B → List B
  | [], _ => []
  | [_], _ => []
  | _ :: d :: p, r => ev (d :: p) r :: dv (d :: p) r
theorem length_dv (p : List B) (r : B) : (dv p r).length = p.length - 1 := by
  induction p with
  | nil => rfl
  | cons c p ih =>
    cases p with
    | nil => rfl
    | cons d p => rw [dv, List.length_cons, ih]; simp
theorem ev_dv (p : List B) (r x : B) : ev p x = mul (x ^^^ r) (ev (dv p r) x) ^^^ ev p r := by
  induction p with
  | nil => show (0 : B) = mul _ 0 ^^^ 0; rw [mul_zero]; rfl
  | cons c p ih =>
    cases p with
    | nil => show c ^^^ mul x 0 = mul _ 0 ^^^ (c ^^^ mul r 0); rw [mul_zero, mul_zero, mul_zero, zxor]
    | cons d p =>
      rw [ev_cons c, dv, ev_cons c (d :: p) r, ih, ev_cons (ev (d :: p) r)]
      generalize ev (d :: p) r = b
      generalize ev (dv (d :: p) r) x = a
      rw [mul_xor, mul_xor, ← mul_assoc, ← mul_assoc, mul_comm x (x ^^^ r), xor_mul x r b]
      generalize mul (mul (x ^^^ r) x) a = m
      generalize mul x b = s
      generalize mul r b = t
      apply BitVec.eq_of_getLsbD_eq
      intro i hi
      simp only [BitVec.getLsbD_xor]
      cases c.getLsbD i <;> cases m.getLsbD i <;> cases s.getLsbD i <;> cases t.getLsbD i <;> rfl
theorem zero_of_dv {p : List B} {r : B} (h : ∀ i, cf (dv p r) i = 0) (h0 : ev p r = 0) : ∀ i, cf p i = 0 := by
  induction p with
  | nil => exact cf_nil
  | cons c p ih =>
    cases p with
    | nil =>
      intro i
      have hc : c ^^^ mul r 0 = 0 := h0
      rw [mul_zero, xor0] at hc
      cases i with
      | zero => rw [cf_zero]; exact hc
      | succ i => rw [cf_succ, cf_nil]
    | cons d p =>
      rw [dv] at h
      have h1 : ev (d :: p) r = 0 := by have := h 0; rwa [cf_zero] at this
      have h2 := ih (fun i => by have := h (i + 1); rwa [cf_succ] at this) h1
      intro i
      rw [ev_cons c, h1, mul_zero, xor0] at h0
      cases i with
      | zero => rw [cf_zero]; exact h0
      | succ i => rw [cf_succ]; exact h2 i
theorem xor_eq_zero {x y : B} (h : x ^^^ y = 0) : x = y := by
  have : x ^^^ y ^^^ y = 0 ^^^ y := by rw [h]
  rwa [BitVec.xor_assoc, xself, xor0, zxor] at this
/-- A polynomial with as many places at which it is 0 as it is long is 0. -/
theorem zero_of_roots : ∀ (xs p : List B), p.length ≤ xs.length → xs.Nodup → (∀ x ∈ xs, ev p x = 0) → ∀ i, cf p i = 0
  | [], p, hl, _, _ => fun i => cf_past (by simp at hl; simp [hl])
  | r :: xs, p, hl, hn, hz => by
    have hr := hz r (List.mem_cons_self ..)
    obtain ⟨hnr, hn'⟩ := List.nodup_cons.1 hn
    refine zero_of_dv (r := r) (zero_of_roots xs (dv p r) (by rw [length_dv]; simp at hl; omega) hn' (fun x hx => ?_)) hr
    have h1 := ev_dv p r x
    rw [hz x (List.mem_cons_of_mem _ hx), hr, xor0] at h1
    rcases mul_eq_zero h1.symm with h2 | h2
    · exact absurd (xor_eq_zero h2) (fun h3 => hnr (h3 ▸ hx))
    · exact h2
/-- Through some points there is at most one polynomial that is as short. -/
theorem unique {xs p q : List B} (hn : xs.Nodup) (hp : p.length ≤ xs.length) (hq : q.length ≤ xs.length) (h : ∀ x ∈ xs, ev p x = ev q x) : Same p q := by
  have hz := zero_of_roots xs (addP p q) (by rw [length_addP]; omega) hn (fun x hx => by rw [ev_addP, h x hx, xself])
  intro i
  have := hz i
  rw [cf_addP] at this
  exact xor_eq_zero this
/-- Without what is 0 at the end. -/
def trim : List B → List B
  | [] => []
  | c :: p => match trim p with
    | [] => if c = 0 then [] else [c]
    | d :: q => c :: d :: q
theorem trim_same (p : List B) : Same (trim p) p := by
  induction p with
  | nil => exact Same.refl _
  | cons c p ih =>
    intro i
    unfold trim
    cases ht : trim p with
    | nil =>
      rw [ht] at ih
      simp only
      split
      · rename_i hc
        cases i with
        | zero => rw [cf_nil, cf_zero, hc]
        | succ i => rw [cf_nil, cf_succ, ← ih i, cf_nil]
      · cases i with
        | zero => rw [cf_zero, cf_zero]
        | succ i => rw [cf_succ, cf_succ, ih i]
    | cons d q =>
      rw [ht] at ih
      cases i with
      | zero => rw [cf_zero, cf_zero]
      | succ i => rw [cf_succ, cf_succ, ih i]
/-- The last one is not 0. -/
def Right (p : List B) : Prop := ∀ h : p ≠ [], p.getLast h ≠ 0
theorem trim_right (p : List B) : Right (trim p) := by
  induction p with
  | nil => intro h; exact absurd rfl h
  | cons c p ih =>
    unfold trim
    cases ht : trim p with
    | nil =>
      simp only
      split
      · intro h; exact absurd rfl h
      · rename_i hc; intro _; simpa using hc
    | cons d q =>
      rw [ht] at ih
      intro _
      have := ih (by simp)
      simpa using this
theorem length_trim (p : List B) : (trim p).length ≤ p.length := by
  induction p with
  | nil => exact Nat.le_refl _
  | cons c p ih =>
    unfold trim
    cases ht : trim p with
    | nil => simp only; split <;> simp
    | cons d q => rw [ht] at ih; simp at ih ⊢; omega
theorem right_last {p : List B} (hr : Right p) (h : p ≠ []) : cf p (p.length - 1) ≠ 0 := by
  have := hr h
  rw [List.getLast_eq_getElem] at this
  unfold cf
  have hl : p.length - 1 < p.length := by cases p with | nil => exact absurd rfl h | cons _ _ => simp
  rw [List.getD_eq_getElem?_getD, List.getElem?_eq_getElem hl]
  exact this
theorem right_short {p q : List B} (hr : Right p) (hs : Same p q) : p.length ≤ q.length := by
  by_cases hp : p = []
  · simp [hp]
  · have h1 := right_last hr hp
    rw [hs] at h1
    have hl : 0 < p.length := List.length_pos_iff.2 hp
    by_cases h : p.length ≤ q.length
    · exact h
    · exact absurd (cf_past (by omega)) h1
/-- A right polynomial is told by one list alone. -/
theorem right_eq {p q : List B} (hp : Right p) (hq : Right q) (h : Same p q) : p = q := by
  have hl : p.length = q.length := Nat.le_antisymm (right_short hp h) (right_short hq h.symm)
  refine List.ext_getElem hl (fun i h1 h2 => ?_)
  have := h i
  unfold cf at this
  rwa [List.getD_eq_getElem?_getD, List.getD_eq_getElem?_getD, List.getElem?_eq_getElem h1, List.getElem?_eq_getElem h2] at this
theorem trim_eq {p q : List B} (h : Same p q) : trim p = trim q := right_eq (trim_right p) (trim_right q) ((trim_same p).trans (h.trans (trim_same q).symm))
theorem trim_of_right {p : List B} (h : Right p) : trim p = p := right_eq (trim_right p) h (trim_same p)
theorem ev_trim (p : List B) (x : B) : ev (trim p) x = ev p x := (trim_same p).ev x
end Go.Proofs.Ytomojokamaibaaa.MGF
/- The product's loop in steps. Nothing of the program stands here. -/
namespace Go.Proofs.Ytomojokamaibaaa.MGF
open Go.PlainAid
theorem xor64_nat (a b : Nat) (ha : a < 65536) (hb : b < 65536) : bits .xor .i64 (a : Int) (b : Int) = ((a ^^^ b : Nat) : Int) := by
  have h2 : a ^^^ b < 2 ^ 16 := Nat.xor_lt_two_pow (by omega) (by omega)
  have ha' : a % 2 ^ IntKind.i64.bits = a := Nat.mod_eq_of_lt (Nat.lt_of_lt_of_le ha (by decide))
  have hb' : b % 2 ^ IntKind.i64.bits = b := Nat.mod_eq_of_lt (Nat.lt_of_lt_of_le hb (by decide))
  simp only [bits, BitVec.ofInt_natCast, BitVec.toNat_xor, BitVec.toNat_ofNat, ha', hb']
  rw [IntKind.wrap_i64]
  omega
theorem odd64 (b : Nat) (h : b < 9223372036854775808) : bits .and .i64 (b : Int) 1 = ((b % 2 : Nat) : Int) := by
  have hb' : b % 2 ^ IntKind.i64.bits = b := Nat.mod_eq_of_lt (Nat.lt_of_lt_of_le h (by decide))
  show bits .and .i64 (b : Int) ((1 : Nat) : Int) = _
  simp only [bits, BitVec.ofInt_natCast, BitVec.toNat_and, BitVec.toNat_ofNat, hb', show (1 : Nat) % 2 ^ IntKind.i64.bits = 1 from by decide, Nat.and_one_is_mod]
  rw [IntKind.wrap_i64]
  omega
theorem xt_lt {a : Nat} (h : a < 256) : xt a < 256 := by
  have h1 := allB_of (fun a => Nat.ble (xt a) 255) 8 0 (by kernel_rfl) a h
  rw [Nat.zero_add] at h1
  have := Nat.le_of_ble_eq_true h1
  omega
theorem xt_low {a : Nat} (h : a < 128) : xt a = 2 * a := by
  unfold xt
  rw [Nat.div_eq_of_lt h, Nat.zero_mul, Nat.xor_zero]
theorem xt_high {a : Nat} (h : 128 ≤ a) (h2 : a < 256) : xt a = (2 * a) ^^^ 283 := by
  unfold xt
  rw [show a / 128 = 1 by omega, Nat.one_mul]
theorem gmTo_even {a b n : Nat} (h : b % 2 = 0) : gmTo a b (n + 1) = gmTo (xt a) (b / 2) n := by rw [gmTo, h, Nat.zero_mul, Nat.zero_xor]
theorem gmTo_odd {a b n : Nat} (h : b % 2 = 1) : gmTo a b (n + 1) = a ^^^ gmTo (xt a) (b / 2) n := by rw [gmTo, h, Nat.one_mul]
theorem gmTo_zero (a n : Nat) : gmTo a 0 n = 0 := by
  induction n generalizing a with
  | zero => rfl
  | succ n ih => rw [gmTo, Nat.zero_div, ih]; simp
/-- Where the loop stands: what is still to add makes the product. -/
def At (a0 b0 a b o : Nat) : Prop := a < 256 ∧ o < 256 ∧ ∃ n, b < 2 ^ n ∧ n ≤ 8 ∧ o ^^^ gmTo a b n = gm a0 b0
theorem At.start {a0 b0 : Nat} (ha : a0 < 256) (hb : b0 < 256) : At a0 b0 a0 b0 0 := ⟨ha, by decide, 8, hb, Nat.le_refl _, by rw [Nat.zero_xor]; rfl⟩
theorem At.lt {a0 b0 a b o : Nat} (h : At a0 b0 a b o) : b < 256 := by
  obtain ⟨_, _, n, hb, hn, _⟩ := h
  exact Nat.lt_of_lt_of_le hb (Nat.pow_le_pow_right (by decide) hn : 2 ^ n ≤ 2 ^ 8)
theorem At.fin {a0 b0 a o : Nat} (h : At a0 b0 a 0 o) : o = gm a0 b0 := by
  obtain ⟨_, _, n, _, _, e⟩ := h
  rwa [gmTo_zero, Nat.xor_zero] at e
theorem xor_lt {a b : Nat} (ha : a < 256) (hb : b < 256) : a ^^^ b < 256 := Nat.xor_lt_two_pow (n := 8) ha hb
theorem At.even {a0 b0 a b o : Nat} (h : At a0 b0 a b o) (hb : 0 < b) (h2 : b % 2 = 0) : At a0 b0 (xt a) (b / 2) o := by
  obtain ⟨ha, ho, n, hn, h8, e⟩ := h
  cases n with
  | zero => simp at hn; omega
  | succ n => exact ⟨xt_lt ha, ho, n, by rw [Nat.pow_succ] at hn; omega, by omega, by rw [← e, gmTo_even h2]⟩
theorem At.odd {a0 b0 a b o : Nat} (h : At a0 b0 a b o) (_ : 0 < b) (h2 : b % 2 = 1) : At a0 b0 (xt a) (b / 2) (o ^^^ a) := by
  obtain ⟨ha, ho, n, hn, h8, e⟩ := h
  cases n with
  | zero => simp at hn; omega
  | succ n => exact ⟨xt_lt ha, xor_lt ho ha, n, by rw [Nat.pow_succ] at hn; omega, by omega, by rw [← e, gmTo_odd h2, Nat.xor_assoc]⟩
/-- A byte as a number. -/
def bi (x : B) : Int := (x.toNat : Int)
theorem bi_range (x : B) : 0 ≤ bi x ∧ bi x ≤ 255 := by have := x.isLt; unfold bi; omega
def ib (z : Int) : B := BitVec.ofNat 8 z.toNat
theorem bi_ib {z : Int} (h0 : 0 ≤ z) (h1 : z ≤ 255) : bi (ib z) = z := by
  unfold bi ib
  rw [BitVec.toNat_ofNat, Nat.mod_eq_of_lt (by omega)]
  omega
theorem ib_bi (x : B) : ib (bi x) = x := by
  unfold ib bi
  apply BitVec.eq_of_toNat_eq
  rw [BitVec.toNat_ofNat, Int.toNat_natCast]
  exact Nat.mod_eq_of_lt x.isLt
theorem bi_inj {x y : B} (h : bi x = bi y) : x = y := by rw [← ib_bi x, h, ib_bi]
theorem bi_zero : bi 0 = 0 := rfl
theorem bi_xor (x y : B) : bits .xor .i64 (bi x) (bi y) = bi (x ^^^ y) := by
  have hx := x.isLt
  have hy := y.isLt
  unfold bi
  rw [xor64_nat _ _ (by omega) (by omega), BitVec.toNat_xor]
theorem bi_mul (x y : B) : bi (mul x y) = ((gm x.toNat y.toNat : Nat) : Int) := by unfold bi; rw [mul_toNat]
end Go.Proofs.Ytomojokamaibaaa.MGF
