/- Texts put together: what the law uses of them. -/
import Derived.WalkKit
import Derived.Still
import Derived.StillTactics
import Derived.Orders
import Derived.Test.YtidcpdfhnhfelaaGreatDoorQTxr00
/- A region that draws its order: its first operations up to a call, one by one, a still one taken ahead of its turn where its turn is not told; behind the call what only reads. Nothing of the program stands here. -/
namespace Go.Proofs.YtidcpdfhnhfelaaGreatDoor.TillZ
open Go
section
variable {P : Program} {ops : Array Oper} {md : Region.Mode} {S : World → Prop} {Q : Exit → Act → World → Prop}
/-- What one operation leads to that is carried out, makes no defer and does not panic. -/
def upZ (P : Program) (o : Oper) (a : Act) (next : Act → World → Prop) : Result Next → Prop
  | .ok (.value v) w' => next (a.put o.dst v) w'
  | .ok .skip w' => next (a.put o.dst undef) w'
  | .ok (.enter f args) w' => Calls P f args w' fun
      | .returned v, w'' => next (a.put o.dst v) w''
      | _, _ => False
  | _ => False
theorem upZ_mono {o : Oper} {a : Act} {K K' : Act → World → Prop} (h : ∀ a w, K a w → K' a w) {r : Result Next} (hr : upZ P o a K r) : upZ P o a K' r := by
  cases r with
  | ok x w' =>
    cases x <;> first
      | exact h _ _ hr
      | exact Calls.mono hr (fun e w'' he => by cases e <;> first | exact h _ _ he | exact he)
      | exact hr.elim
  | halt x w' => exact hr.elim
def opZ (P : Program) (ops : Array Oper) (i : Nat) (K : Act → World → Prop) (a : Act) (w : World) : Prop :=
  ∃ o, ops[i]? = some o ∧ o.guard = none ∧ upZ P o a K ((execOp a.eval o).run P w)
theorem opZ_mono {i : Nat} {a : Act} {w : World} {K K' : Act → World → Prop} (h : ∀ a w, K a w → K' a w) (hh : opZ P ops i K a w) : opZ P ops i K' a w := by
  obtain ⟨o, h1, h2, h4⟩ := hh
  exact ⟨o, h1, h2, upZ_mono h h4⟩
theorem opZ_wp {i : Nat} {a : Act} {w : World} {K : Act → World → Prop} (h : opZ P ops i K a w) : wpOp P ops Q i K a w := by
  obtain ⟨o, ho, hg, hu⟩ := h
  unfold wpOp
  rw [ho]
  dsimp only
  rw [if_pos (by simp [Region.wanted, hg])]
  refine .inl ?_
  unfold Oper.wp
  generalize (execOp a.eval o).run P w = r at *
  cases r with
  | ok x w' =>
    cases x <;> first
      | exact hu
      | exact Calls.mono hu (fun e w'' he => by cases e <;> first | exact he | exact he.elim)
      | exact hu.elim
  | halt x w' => exact hu.elim
/-- Whatever order is picked, till t is carried out; then what stands behind it. -/
def wpZ (P : Program) (md : Region.Mode) (ops : Array Oper) (S : World → Prop) (t : Nat) (Q : Exit → Act → World → Prop) : Nat → Array Bool → Act → World → Prop
  | 0, _, _, _ => False
  | k + 1, listed, a, w => Region.ready md ops listed ≠ [] ∧ ∀ i ∈ Region.ready md ops listed, opZ P ops i (fun a' w' => (i = t → wpAny P md ops Q k (listed.setIfInBounds i true) a' w') ∧ (i ≠ t → S w' ∧ wpZ P md ops S t Q k (listed.setIfInBounds i true) a' w')) a w
theorem any_of {t : Nat} : ∀ (k : Nat) (listed : Array Bool) (a : Act) (w : World), wpZ P md ops S t Q k listed a w → wpAny P md ops Q k listed a w
  | 0, _, _, _, h => h.elim
  | k + 1, listed, a, w, h => ⟨fun h0 => absurd h0 h.1, fun i hi => opZ_wp (opZ_mono (fun a' w' h2 => by
      by_cases e : i = t
      · exact h2.1 e
      · exact any_of k _ _ _ (h2.2 e).2) (h.2 i hi))⟩
def YieldsZ (P : Program) (S : World → Prop) (o : Oper) (v : Value) (a : Act) : Prop := ∀ w, S w → (execOp a.eval o).run P w = .ok (.value v) w
theorem put_step {j : Nat} {oi oj : Oper} {v : Value} (hj : ops[j]? = some oj) (hap : oi.apart ops oj = true) (hsi : ∀ cs b, oi.op ≠ .select cs b) (hsj : ∀ cs b, oj.op ≠ .select cs b) {K : Act → World → Prop} {a : Act} {w : World}
    (hy : YieldsZ P S oi v a) (h : opZ P ops j K (a.put oi.dst v) w) : opZ P ops j (fun a' w' => YieldsZ P S oi v a' ∧ K (a'.put oi.dst v) w') a w := by
  obtain ⟨h1, h2, h3⟩ := Oper.apart_spec hap
  have keep : ∀ u, YieldsZ P S oi v (a.put oj.dst u) := fun u w hS => by
    rw [execOp_put (ops := ops) oi hsi a oj.dst u h3]
    exact hy w hS
  obtain ⟨o, ho, hg, hu⟩ := h
  obtain rfl : o = oj := Option.some.inj (ho.symm.trans hj)
  refine ⟨o, hj, hg, ?_⟩
  rw [execOp_put (ops := ops) o hsj a oi.dst v h1] at hu
  generalize (execOp a.eval o).run P w = r at *
  cases r with
  | ok x w' =>
    cases x <;> first
      | exact ⟨keep _, by rw [← Act.put_comm a v _ h2]; exact hu⟩
      | exact Calls.mono hu (fun e w'' he => by cases e <;> first | exact ⟨keep _, by rw [← Act.put_comm a v _ h2]; exact he⟩ | exact he)
      | exact hu.elim
  | halt x w' => exact hu.elim
theorem first {i t : Nat} {oi ot : Oper} {v : Value} (hi : ops[i]? = some oi) (hg : oi.guard = none) (hne : i ≠ t) (ht : ops[t]? = some ot) (hw : ∃ e ∈ ot.after, Region.binds md e = true ∧ e.on = i)
    (hsel : ∀ (j : Nat) (o : Oper) cs b, ops[j]? = some o → o.op ≠ .select cs b) :
    ∀ (k : Nat) (listed : Array Bool) (a : Act) (w : World),
      (∀ j oj, ops[j]? = some oj → j ≠ i → listed.getD j true = false → (∀ e ∈ oj.after, Region.binds md e = true → e.on ≠ i) → oi.apart ops oj = true) →
      i ∈ Region.ready md ops listed → YieldsZ P S oi v a → S w →
      wpZ P md ops S t Q k (listed.setIfInBounds i true) (a.put oi.dst v) w → wpZ P md ops S t Q (k + 1) listed a w := by
  intro k
  induction k with
  | zero => intro listed a w _ _ _ _ H; exact H.elim
  | succ k ih =>
    intro listed a w hfree hr hy hS H
    refine ⟨fun h => (by rw [h] at hr; cases hr), fun j hj => ?_⟩
    by_cases hji : j = i
    · subst hji
      exact ⟨oi, hi, hg, by rw [hy w hS]; exact ⟨fun e => absurd e hne, fun _ => ⟨hS, H⟩⟩⟩
    · obtain ⟨hjun, oj, hoj, hall⟩ := mem_ready.1 hj
      have hun : ∀ e ∈ oj.after, Region.binds md e = true → e.on ≠ i := fun e he hb heq => by
        have ha := hall e he hb
        have hb0 := (mem_ready.1 hr).1
        rw [heq] at ha
        rcases Nat.lt_or_ge i listed.size with hl | hl
        · simp [hl] at hb0 ha; rw [hb0] at ha; cases ha
        · simp [Array.getElem?_eq_none hl] at ha
      have hjt : j ≠ t := fun e => by
        subst e
        obtain rfl : oj = ot := Option.some.inj (hoj.symm.trans ht)
        obtain ⟨e, he, hb, hon⟩ := hw
        exact hun e he hb hon
      have hs := put_step hoj (hfree j oj hoj hji hjun hun) (fun cs b => hsel i oi cs b hi) (fun cs b => hsel j oj cs b hoj) hy (H.2 j (ready_mono hj hji))
      refine opZ_mono (fun a' w' h3 => ?_) hs
      obtain ⟨hS', h4⟩ := h3.2.2 hjt
      refine ⟨fun e => absurd e hjt, fun _ => ⟨hS', ih (listed.setIfInBounds j true) a' w' (fun m om hm hmi hmun hno => hfree m om hm hmi (by
        by_cases hjm : j = m
        · rw [← hjm]; exact hjun
        · rw [getD_set_ne true hjm] at hmun; exact hmun) hno) (ready_mono hr (Ne.symm hji)) h3.1 hS' ?_⟩⟩
      rw [Array.setIfInBounds_comm _ _ hji]
      exact h4
/-- t waits for i. -/
def waits (md : Region.Mode) (ops : Array Oper) (t i : Nat) : Bool := match ops[t]? with | some o => o.after.any (fun e => Region.binds md e && e.on == i) | none => false
theorem take {i t : Nat} {oi : Oper} {v : Value} {k : Nat} {listed : Array Bool} {a : Act} {w : World} (hi : ops[i]? = some oi) (hg : oi.guard = none) (hne : Nat.beq i t = false) (hw : waits md ops t i = true)
    (hs : Region.noSelect ops = true) (hf : Region.free md ops listed i = true) (hr : (Region.ready md ops listed).contains i = true) (hS : S w) (hy : YieldsZ P S oi v a)
    (h : wpZ P md ops S t Q k (listed.setIfInBounds i true) (a.put oi.dst v) w) : wpZ P md ops S t Q (k + 1) listed a w := by
  unfold waits at hw
  cases ht : ops[t]? with
  | none => rw [ht] at hw; cases hw
  | some ot =>
    rw [ht] at hw
    obtain ⟨e, he, hb⟩ := Array.any_eq_true'.1 hw
    simp only [Bool.and_eq_true, beq_iff_eq] at hb
    exact first hi hg (Nat.ne_of_beq_eq_false hne) ht ⟨e, he, hb.1, hb.2⟩ (Region.noSelect_spec hs) k listed a w (Region.free_spec hi hf) (by simpa using hr) hy hS h
/-- The only one that may come up, ahead of t. -/
theorem value {i t : Nat} {o : Oper} {k : Nat} {listed : Array Bool} {a : Act} {w : World} {v : Value} (hr : Region.ready md ops listed = [i]) (ho : ops[i]? = some o) (hg : o.guard = none) (hne : Nat.beq i t = false) (he : (execOp a.eval o).run P w = .ok (.value v) w) (hS : S w)
    (h : wpZ P md ops S t Q k (listed.setIfInBounds i true) (a.put o.dst v) w) : wpZ P md ops S t Q (k + 1) listed a w := by
  refine ⟨fun h0 => (by rw [hr] at h0; cases h0), fun j hj => ?_⟩
  rw [hr] at hj
  obtain rfl : j = i := by simpa using hj
  exact ⟨o, ho, hg, by rw [he]; exact ⟨fun e => absurd e (Nat.ne_of_beq_eq_false hne), fun _ => ⟨hS, h⟩⟩⟩
/-- One of those that may come up. -/
theorem opz {i t : Nat} {o : Oper} {k : Nat} {listed : Array Bool} {a : Act} {w w' : World} {v : Value} (ho : ops[i]? = some o) (hg : o.guard = none) (hne : Nat.beq i t = false) (he : (execOp a.eval o).run P w = .ok (.value v) w') (hS : S w')
    (h : wpZ P md ops S t Q k (listed.setIfInBounds i true) (a.put o.dst v) w') : opZ P ops i (fun a' w' => (i = t → wpAny P md ops Q k (listed.setIfInBounds i true) a' w') ∧ (i ≠ t → S w' ∧ wpZ P md ops S t Q k (listed.setIfInBounds i true) a' w')) a w :=
  ⟨o, ho, hg, by rw [he]; exact ⟨fun e => absurd e (Nat.ne_of_beq_eq_false hne), fun _ => ⟨hS, h⟩⟩⟩
theorem one {i t : Nat} {k : Nat} {listed : Array Bool} {a : Act} {w : World} (hr : Region.ready md ops listed = [i]) (h : opZ P ops i (fun a' w' => (i = t → wpAny P md ops Q k (listed.setIfInBounds i true) a' w') ∧ (i ≠ t → S w' ∧ wpZ P md ops S t Q k (listed.setIfInBounds i true) a' w')) a w) : wpZ P md ops S t Q (k + 1) listed a w := by
  refine ⟨fun h0 => (by rw [hr] at h0; cases h0), fun j hj => ?_⟩
  rw [hr] at hj
  obtain rfl : j = i := by simpa using hj
  exact h
/-- A call, alone at its turn, ahead of t. -/
theorem call {i t : Nat} {o : Oper} {k : Nat} {listed : Array Bool} {a : Act} {w : World} {f : FuncId} {args : Array Value} (hr : Region.ready md ops listed = [i]) (ho : ops[i]? = some o) (hg : o.guard = none) (hne : Nat.beq i t = false) (he : (execOp a.eval o).run P w = .ok (.enter f args) w)
    (h : Calls P f args w fun e w'' => ∃ v, e = .returned v ∧ S w'' ∧ wpZ P md ops S t Q k (listed.setIfInBounds i true) (a.put o.dst v) w'') : wpZ P md ops S t Q (k + 1) listed a w :=
  one hr ⟨o, ho, hg, by rw [he]; exact Calls.mono h (fun e w'' he => by obtain ⟨v, rfl, hS, h1⟩ := he; exact ⟨fun e => absurd e (Nat.ne_of_beq_eq_false hne), fun _ => ⟨hS, h1⟩⟩)⟩
theorem hand_skip {t : Nat} {o : Oper} {k : Nat} {listed : Array Bool} {a : Act} {w w' : World} (hr : Region.ready md ops listed = [t]) (ho : ops[t]? = some o) (hg : o.guard = none) (he : (execOp a.eval o).run P w = .ok .skip w')
    (h : wpAny P md ops Q k (listed.setIfInBounds t true) (a.put o.dst undef) w') : wpZ P md ops S t Q (k + 1) listed a w := by
  refine ⟨fun h0 => (by rw [hr] at h0; cases h0), fun j hj => ?_⟩
  rw [hr] at hj
  obtain rfl : j = t := by simpa using hj
  exact ⟨o, ho, hg, by rw [he]; exact ⟨fun _ => h, fun e => absurd rfl e⟩⟩
theorem any_done {listed : Array Bool} {a : Act} {w : World} (hr : Region.ready md ops listed = []) (h : Q .normal a w) : ∀ k, wpAny P md ops Q k listed a w
  | 0 => ⟨hr, h⟩
  | _ + 1 => ⟨fun _ => h, by rw [hr]; simp⟩
/-- t itself. -/
theorem hand {t : Nat} {o : Oper} {k : Nat} {listed : Array Bool} {a : Act} {w : World} {v : Value} (hr : Region.ready md ops listed = [t]) (ho : ops[t]? = some o) (hg : o.guard = none) (he : (execOp a.eval o).run P w = .ok (.value v) w)
    (h : wpAny P md ops Q k (listed.setIfInBounds t true) (a.put o.dst v) w) : wpZ P md ops S t Q (k + 1) listed a w := by
  refine ⟨fun h0 => (by rw [hr] at h0; cases h0), fun j hj => ?_⟩
  rw [hr] at hj
  obtain rfl : j = t := by simpa using hj
  exact ⟨o, ho, hg, by rw [he]; exact ⟨fun _ => h, fun e => absurd rfl e⟩⟩
/-- Behind t: the only one that may come up. -/
theorem any_value {i : Nat} {o : Oper} {k : Nat} {listed : Array Bool} {a : Act} {w : World} {v : Value} (hr : Region.ready md ops listed = [i]) (ho : ops[i]? = some o) (hg : o.guard = none) (he : (execOp a.eval o).run P w = .ok (.value v) w)
    (h : wpAny P md ops Q k (listed.setIfInBounds i true) (a.put o.dst v) w) : wpAny P md ops Q (k + 1) listed a w := by
  refine ⟨fun h0 => (by rw [hr] at h0; cases h0), fun j hj => ?_⟩
  rw [hr] at hj
  obtain rfl : j = i := by simpa using hj
  exact opZ_wp ⟨o, ho, hg, by rw [he]; exact h⟩
theorem wp_of_up {o : Oper} {a : Act} {w : World} {K : Act → World → Prop} (hu : upZ P o a K ((execOp a.eval o).run P w)) : o.wp P a w K Q := by
  unfold Oper.wp
  generalize (execOp a.eval o).run P w = r at *
  cases r with
  | ok x w' =>
    cases x <;> first
      | exact hu
      | exact Calls.mono hu (fun e w'' he => by cases e <;> first | exact he | exact he.elim)
      | exact hu.elim
  | halt x w' => exact hu.elim
/-- An operation behind a guard that says yes. -/
theorem any_callg {i : Nat} {o : Oper} {k : Nat} {listed : Array Bool} {a : Act} {w : World} {f : FuncId} {args : Array Value} (hr : Region.ready md ops listed = [i]) (ho : ops[i]? = some o) (hw : Region.wanted o (yielded ops a.tmps) = true) (he : (execOp a.eval o).run P w = .ok (.enter f args) w)
    (h : Calls P f args w fun e w'' => ∃ v, e = .returned v ∧ wpAny P md ops Q k (listed.setIfInBounds i true) (a.put o.dst v) w'') : wpAny P md ops Q (k + 1) listed a w := by
  refine ⟨fun h0 => (by rw [hr] at h0; cases h0), fun j hj => ?_⟩
  rw [hr] at hj
  obtain rfl : j = i := by simpa using hj
  unfold wpOp
  rw [ho]
  dsimp only
  rw [if_pos hw]
  exact .inl (wp_of_up (by rw [he]; exact Calls.mono h (fun e w'' he => by obtain ⟨v, rfl, h1⟩ := he; exact h1)))
theorem any_valueg {i : Nat} {o : Oper} {k : Nat} {listed : Array Bool} {a : Act} {w w' : World} {v : Value} (hr : Region.ready md ops listed = [i]) (ho : ops[i]? = some o) (hw : Region.wanted o (yielded ops a.tmps) = true) (he : (execOp a.eval o).run P w = .ok (.value v) w')
    (h : wpAny P md ops Q k (listed.setIfInBounds i true) (a.put o.dst v) w') : wpAny P md ops Q (k + 1) listed a w := by
  refine ⟨fun h0 => (by rw [hr] at h0; cases h0), fun j hj => ?_⟩
  rw [hr] at hj
  obtain rfl : j = i := by simpa using hj
  unfold wpOp
  rw [ho]
  dsimp only
  rw [if_pos hw]
  exact .inl (wp_of_up (by rw [he]; exact h))
/-- What is left only reads. -/
theorem still {g m : Nat} {listed : Array Bool} {a : Act} {w : World} (hg : g = ops.toList.length - m) (hs : Region.noSelect ops = true) (hB : Region.lexFrom md ops g m listed = true)
    (h : wpStill P ops w (fun a' => Q .normal a' w) (ops.toList.drop m) a) : wpAny P md ops Q g listed a w := by
  have hl : (ops.toList.drop m).length = g := by rw [List.length_drop, hg]
  have h1 := wpAnyS_lex (md := md) (w := w) (Q := fun a' => Q .normal a' w) hs (ops.toList.drop m) m listed a (fun j => by simp [List.getElem?_drop]) (by rw [hl]; exact hB) h
  rw [hl] at h1
  exact wpAny_of_still (fun _ h => h) _ _ _ h1
/-- One whose guard says no; one whose guard says yes. -/
theorem no {K : Act → Prop} {l : List Oper} {o : Oper} {a : Act} {w : World} (hw : Region.wanted o (yielded ops a.tmps) = false) (h : wpStill P ops w K l (a.put o.dst undef)) : wpStill P ops w K (o :: l) a := by
  unfold wpStill
  rw [if_neg (by rw [hw]; decide)]
  exact h
theorem step {K : Act → Prop} {l : List Oper} {o : Oper} {a : Act} {w : World} (hw : Region.wanted o (yielded ops a.tmps) = true) (h : ∀ K' : Act → Prop, (∀ a, wpStill P ops w K l a → K' a) → o.still P a w K') : wpStill P ops w K (o :: l) a := by
  unfold wpStill
  rw [if_pos hw]
  exact h _ (fun _ h => h)
theorem region {id t : Nat} {a : Act} {w : World} (hm : P.follows .mixedOrders = true) (S : World → Prop) (h : wpZ P .any ops S t Q ops.size (Array.replicate ops.size false) a w.drew) : (Code.region id ops true).wp P Q a w :=
  wp_region_any hm (any_of _ _ _ _ h)
end
end Go.Proofs.YtidcpdfhnhfelaaGreatDoor.TillZ

