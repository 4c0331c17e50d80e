/- A region that draws its order, whose reads all come ahead of one call that hands something out: in a plain frame within a fence. Nothing of the program stands here. -/
import Derived.Test.YtdnbkjiijpeiiaaGreatFnPointsA
namespace Go.Proofs.YtdnbkjiijpeiiaaGreat.TillY
open Go
section
variable {P : Program} {ops : Array Oper} {md : Region.Mode} {S : World → Prop} {Q : Exit → Act → World → Prop} {n : Nat}
def opV (P : Program) (ops : Array Oper) (i : Nat) (K : Act → World → Prop) (a : Act) (w : World) : Prop :=
  ∃ o v w', ops[i]? = some o ∧ o.guard = none ∧ (∀ c, o.op ≠ .defer c) ∧ (execOp a.eval o).run P w = .ok (.value v) w' ∧ K (a.put o.dst v) w'
theorem opV_mono {i : Nat} {a : Act} {w : World} {K K' : Act → World → Prop} (h : ∀ a w, K a w → K' a w) (hh : opV P ops i K a w) : opV P ops i K' a w := by
  obtain ⟨o, v, w', h1, h2, h3, h4, h5⟩ := hh
  exact ⟨o, v, w', h1, h2, h3, h4, h _ _ h5⟩
/-- Whatever order is picked: reads till t; S is asked behind each of them. -/
def wpY (P : Program) (md : Region.Mode) (ops : Array Oper) (S : World → Prop) (Q : Exit → Act → World → Prop) (n t : Nat) : Nat → Array Bool → Act → World → Prop
  | 0, listed, a, w => Region.ready md ops listed = [] ∧ Q .normal a w
  | k + 1, listed, a, w => (Region.ready md ops listed = [] → Q .normal a w) ∧ ∀ i ∈ Region.ready md ops listed,
      (i = t → wpOpIn Fence.wide n P ops Q i (wpAnyIn Fence.wide n P md ops Q k (listed.setIfInBounds i true)) a w) ∧
      (i ≠ t → opV P ops i (fun a' w' => S w' ∧ wpY P md ops S Q n t k (listed.setIfInBounds i true) a' w') a w)
theorem anyIn_of {t : Nat} : ∀ (k : Nat) (listed : Array Bool) (a : Act) (w : World), wpY P md ops S Q n t k listed a w → wpAnyIn Fence.wide n P md ops Q k listed a w
  | 0, _, _, _, h => h
  | k + 1, listed, a, w, h => ⟨h.1, fun i hi => by
      by_cases hit : i = t
      · exact (h.2 i hi).1 hit
      · obtain ⟨o, v, w', ho, hg, hd, hr, hK⟩ := (h.2 i hi).2 hit
        unfold wpOpIn
        rw [ho]
        dsimp only
        rw [if_pos (by simp [Region.wanted, hg])]
        refine ⟨fun _ _ => trivial, ?_⟩
        rw [show Fence.wide.round = none from rfl, Oper.semAt_none, hr]
        exact anyIn_of k _ _ _ hK.2⟩
def YieldsT (P : Program) (S : World → Prop) (o : Oper) (v : Value) (a : Act) : Prop := ∀ w, S w → (execOp a.eval o).run P w = .ok (.value v) w
theorem put_step {j : Nat} {oi oj : Oper} {v : Value} (hj : ops[j]? = some oj) (hap : oi.apart ops oj = true) (hsi : ∀ cs b, oi.op ≠ .select cs b) (hsj : ∀ cs b, oj.op ≠ .select cs b) {K : Act → World → Prop} {a : Act} {w : World}
    (hy : YieldsT P S oi v a) (h : opV P ops j K (a.put oi.dst v) w) : opV P ops j (fun a' w' => YieldsT P S oi v a' ∧ K (a'.put oi.dst v) w') a w := by
  obtain ⟨h1, h2, h3⟩ := Oper.apart_spec hap
  obtain ⟨o, u, w', ho, hg, hd, hr, hK⟩ := h
  obtain rfl : o = oj := Option.some.inj (ho.symm.trans hj)
  refine ⟨o, u, w', hj, hg, hd, ?_, fun w hS => ?_, ?_⟩
  · rw [execOp_put (ops := ops) o hsj a oi.dst v h1] at hr
    exact hr
  · rw [execOp_put (ops := ops) oi hsi a o.dst u h3]
    exact hy w hS
  · rw [← Act.put_comm a v _ h2]
    exact hK
/-- What is carried out has all that it waits for behind it. -/
def Closed (md : Region.Mode) (ops : Array Oper) (listed : Array Bool) : Prop := ∀ j o, ops[j]? = some o → listed.getD j false = true → ∀ e ∈ o.after, Region.binds md e = true → listed.getD e.on false = true
theorem Closed.set {listed : Array Bool} {j : Nat} (h : Closed md ops listed) (hj : j ∈ Region.ready md ops listed) : Closed md ops (listed.setIfInBounds j true) := by
  obtain ⟨_, oj, hoj, hall⟩ := mem_ready.1 hj
  intro m om hm hl e he hb
  by_cases hmj : m = j
  · subst hmj
    obtain rfl : om = oj := Option.some.inj (hm.symm.trans hoj)
    exact getD_set_true (hall e he hb)
  · rw [getD_set_ne false (Ne.symm hmj)] at hl
    exact getD_set_true (h m om hm hl e he hb)
def closedB (md : Region.Mode) (ops : Array Oper) (listed : Array Bool) : Bool :=
  (List.range ops.size).all fun j => !(listed.getD j false) || (match ops[j]? with | none => true | some o => o.after.all fun e => !(Region.binds md e) || listed.getD e.on false)
theorem closedB_spec {listed : Array Bool} (h : closedB md ops listed = true) : Closed md ops listed := by
  intro j o ho hl e he hb
  have hj : j < ops.size := (Array.getElem?_eq_some_iff.1 ho).1
  have := List.all_eq_true.1 h j (List.mem_range.2 hj)
  rw [hl, ho] at this
  simp only [Bool.not_true, Bool.false_or, Array.all_eq_true'] at this
  have := this e he
  rw [hb] at this
  simpa using this
/-- t waits for i, itself or through others. -/
def reach (md : Region.Mode) (ops : Array Oper) (i : Nat) : Nat → Nat → Bool
  | 0, _ => false
  | k + 1, t => match ops[t]? with
    | none => false
    | some o => o.after.any fun e => Region.binds md e && (Nat.beq e.on i || reach md ops i k e.on)
theorem reach_spec {listed : Array Bool} (hc : Closed md ops listed) (i : Nat) : ∀ k t, (∀ o, ops[t]? = some o → ∀ e ∈ o.after, Region.binds md e = true → listed.getD e.on false = true) → reach md ops i k t = true → listed.getD i false = true
  | 0, _, _, h => by cases h
  | k + 1, t, hall, h => by
    unfold reach at h
    cases ho : ops[t]? with
    | none => rw [ho] at h; cases h
    | some o =>
      rw [ho] at h
      obtain ⟨e, he, hb⟩ := Array.any_eq_true'.1 h
      simp only [Bool.and_eq_true, Bool.or_eq_true] at hb
      have hl := hall o ho e he hb.1
      rcases hb.2 with h2 | h2
      · rw [← Nat.eq_of_beq_eq_true h2]; exact hl
      · exact reach_spec hc i k e.on (fun o' ho' e' he' hb' => hc e.on o' ho' hl e' he' hb') h2
theorem first {i t : Nat} {oi : Oper} {v : Value} (hi : ops[i]? = some oi) (hg : oi.guard = none) (hd : ∀ c, oi.op ≠ .defer c) (hne : i ≠ t) (hw : reach md ops i 8 t = true)
    (hsel : ∀ (j : Nat) (o : Oper) cs b, ops[j]? = some o → o.op ≠ .select cs b) :
    ∀ (k : Nat) (listed : Array Bool) (a : Act) (w : World), Closed md ops listed →
      (∀ j oj, ops[j]? = some oj → j ≠ i → listed.getD j true = false → (∀ e ∈ oj.after, Region.binds md e = true → e.on ≠ i) → oi.apart ops oj = true) →
      i ∈ Region.ready md ops listed → YieldsT P S oi v a → S w →
      wpY P md ops S Q n t k (listed.setIfInBounds i true) (a.put oi.dst v) w → wpY P md ops S Q n t (k + 1) listed a w := by
  intro k
  induction k with
  | zero =>
    intro listed a w _ _ hr hy hS H
    refine ⟨fun h => (by rw [h] at hr; cases hr), fun j hj => ?_⟩
    have hji : j = i := by
      by_cases h : j = i
      · exact h
      · have := ready_mono hj h
        rw [H.1] at this
        cases this
    subst hji
    exact ⟨fun e => absurd e hne, fun _ => ⟨oi, v, w, hi, hg, hd, hy w hS, hS, H⟩⟩
  | succ k ih =>
    intro listed a w hcl hfree hr hy hS H
    refine ⟨fun h => (by rw [h] at hr; cases hr), fun j hj => ?_⟩
    by_cases hji : j = i
    · subst hji
      exact ⟨fun e => absurd e hne, fun _ => ⟨oi, v, w, hi, hg, hd, hy w hS, hS, H⟩⟩
    · obtain ⟨hjun, oj, hoj, hall⟩ := mem_ready.1 hj
      have hin : listed.getD i false = true → False := fun ha => by
        have hb0 := (mem_ready.1 hr).1
        rcases Nat.lt_or_ge i listed.size with hl | hl
        · simp [hl] at hb0 ha; rw [hb0] at ha; cases ha
        · simp [Array.getElem?_eq_none hl] at ha
      have hun : ∀ e ∈ oj.after, Region.binds md e = true → e.on ≠ i := fun e he hb heq => hin (by rw [← heq]; exact hall e he hb)
      have hjt : j ≠ t := fun e => by
        subst e
        exact hin (reach_spec hcl i 8 j (fun o ho e he hb => by
          obtain rfl : o = oj := Option.some.inj (ho.symm.trans hoj)
          exact hall e he hb) hw)
      refine ⟨fun e => absurd e hjt, fun _ => ?_⟩
      have hs := put_step hoj (hfree j oj hoj hji hjun hun) (fun cs b => hsel i oi cs b hi) (fun cs b => hsel j oj cs b hoj) hy ((H.2 j (ready_mono hj hji)).2 hjt)
      refine opV_mono (fun a' w' h3 => ?_) hs
      refine ⟨h3.2.1, ih (listed.setIfInBounds j true) a' w' (hcl.set hj) (fun m om hm hmi hmun hno => hfree m om hm hmi (by
        by_cases hjm : j = m
        · rw [← hjm]; exact hjun
        · rw [getD_set_ne true hjm] at hmun; exact hmun) hno) (ready_mono hr (Ne.symm hji)) h3.1 h3.2.1 ?_⟩
      rw [Array.setIfInBounds_comm _ _ hji]
      exact h3.2.2
theorem take {i t : Nat} {oi : Oper} {v : Value} {k : Nat} {listed : Array Bool} {a : Act} {w : World} (hi : ops[i]? = some oi) (hg : oi.guard = none) (hd : Till.isDefer oi.op = false) (hne : Nat.beq i t = false) (hw : reach md ops i 8 t = true) (hc : closedB md ops listed = true)
    (hs : Region.noSelect ops = true) (hf : Region.free md ops listed i = true) (hr : (Region.ready md ops listed).contains i = true) (hS : S w) (hy : YieldsT P S oi v a)
    (h : wpY P md ops S Q n t k (listed.setIfInBounds i true) (a.put oi.dst v) w) : wpY P md ops S Q n t (k + 1) listed a w :=
  first hi hg (Till.not_defer hd) (Nat.ne_of_beq_eq_false hne) hw (Region.noSelect_spec hs) k listed a w (closedB_spec hc) (Region.free_spec hi hf) (by simpa using hr) hy hS h
/-- The call that hands out. -/
theorem hands {t : Nat} {k : Nat} {listed : Array Bool} {a : Act} {w : World} (hr : Region.ready md ops listed = [t]) (h : wpOpIn Fence.wide n P ops Q t (wpAnyIn Fence.wide n P md ops Q k (listed.setIfInBounds t true)) a w) : wpY P md ops S Q n t (k + 1) listed a w :=
  ⟨fun h0 => (by rw [hr] at h0; cases h0), fun j hj => by
    rw [hr] at hj
    obtain rfl : j = t := by simpa using hj
    exact ⟨fun _ => h, fun e => absurd rfl e⟩⟩
theorem yields {t l : Nat} {o : Oper} {K : Act → World → Prop} {a : Act} {w : World} {f : FuncId} {tmps : Array Value} {assign body : Code} (ho : ops[t]? = some o) (hg : o.guard = none) (h1 : 1 ≤ n) (hr : (execOp a.eval o).run P w = .ok (.round l f tmps assign body) w)
    (h : RoundIn Fence.wide (n - 1) P l f tmps assign body w fun e w'' => ∃ v, e = .returned v ∧ K (a.put o.dst v) w'') : wpOpIn Fence.wide n P ops Q t K a w := by
  unfold wpOpIn
  rw [ho]
  dsimp only
  rw [if_pos (by simp [Region.wanted, hg])]
  refine ⟨fun _ _ => trivial, ?_⟩
  rw [show Fence.wide.round = none from rfl, Oper.semAt_none, hr]
  refine ⟨fun _ => h1, h.mono (fun e w'' he => ?_)⟩
  obtain ⟨v, rfl, hk⟩ := he
  exact hk
theorem region {id t : Nat} {a : Act} {w : World} (hm : P.follows .mixedOrders = true) (S : World → Prop) (h : wpY P .any ops S Q n t ops.size (Array.replicate ops.size false) a w.drew) : (Code.region id ops true).wpIn Fence.wide n P Q a w :=
  wpIn_region_any hm (anyIn_of _ _ _ _ h)
end
end Go.Proofs.YtdnbkjiijpeiiaaGreat.TillY
