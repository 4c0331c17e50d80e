/- The program's polynomials: what the laws over lists want of them. -/
import Derived.Test.YtdnbkjiijpeiiaaGreatPolyB
import Derived.Test.YtdnbkjiijpeiiaaGreatHPolyA
import Derived.Test.YtdnbkjiijpeiiaaGreatSPointsA
import Derived.RangeFuncFrom
import Derived.RangeFuncNested
import Derived.RangeFuncBound
import Derived.RangeFuncLeaves
import Derived.RangeFuncCalls
import Derived.OrdersHeld
import Derived.OrdersIn
import Derived.TacticsIn
import Derived.Test.YtdnbkjiijpeiiaaGreatMParts2
import Derived.Test.YtdnbkjiijpeiiaaGreatVan2
import Derived.Shelf.Abstract
import Derived.Shelf.RegionOpen
import Derived.OwnWalkIn
import Derived.TacticsInMore
import Derived.LoopNIn
import Derived.LoopIn
import Derived.Test.YtdnbkjiijpeiiaaGreatHPointA
namespace Go.Proofs.YtdnbkjiijpeiiaaGreat
open Go.RowKit Go.PlainAid G IRow MGF
set_option linter.unusedVariables false
end Go.Proofs.YtdnbkjiijpeiiaaGreat
/- A range over a function whose own steps may turn what the caller holds: both keep to one relation. Nothing of the program stands here. -/
namespace Go.Proofs.YtdnbkjiijpeiiaaGreat.Round
open Go Go.RowKit
/-- The loop's record is so, and the block for its rounds' deferred calls is empty. -/
structure Opened (b : Nat) (r : Loop) (W : World) : Prop where
  rcd : W.heap[b + 1]? = some (.loop r)
  dfr : W.heap[b]? = some (.deferred (some []))
theorem Opened.keeps {b : Nat} {r : Loop} {W V : World} (h : Opened b r W) (k : KeepsOthers W V) : Opened b r V := ⟨k.same _ _ h.rcd rfl, k.same _ _ h.dfr rfl⟩
theorem Opened.put {b : Nat} {r : Loop} {W : World} (h : Opened b r W) (s : Loop) : Opened b s (W.putObj (b + 1) (.loop s)) :=
  ⟨World.putObj_heap_same (Array.getElem?_eq_some_iff.1 h.rcd).1, (World.putObj_heap_other (by omega)).trans h.dfr⟩
theorem Opened.made (w : World) (r : Loop) : Opened w.heap.size r ((w.alloc (.deferred (some []))).alloc (.loop r)) := by
  have h := World.alloc_heap_new (w.alloc (.deferred (some []))) (.loop r)
  rw [World.size_alloc] at h
  exact ⟨h, (Below.heap_alloc _ _ _ (by simp)).trans (World.alloc_heap_new w _)⟩
variable {F : Fence} {n : Nat} {P : Program}
/-- What the function that is ranged over is asked for: it hands out qs, one by one, whatever holds J and is held by its steps (Ab) and by the rounds (Kp). -/
def HandsOut {α : Type} (F : Fence) (m : Nat) (P : Program) (gf : Nat) (lb : Array Value) (encs : α → Array Value) (Ab Kp : World → World → Prop) (qs : List α) (w : World) : Prop :=
  ∀ (l : Nat) (J : List α → World → Prop) (W : World), Kp w W → (∀ s A B, J s A → Ab A B → J s B) →
    (∀ pre x W1, J pre W1 → pre.length < qs.length → YieldAt F (m - 1) P l (encs x) W1 fun e W' => e = .returned (.bool true) ∧ J (pre ++ [x]) W' ∧ Kp W1 W') → J [] W →
    CallsIn F m P gf (#[.func (.yield l) #[] #[]] ++ lb) W fun e W' => (∃ v, e = .returned v) ∧ J qs W'
theorem wpIn_hands {α : Type} {g : Operand} {ps : Array Tmp} {assign body : Code} {Q : Exit → Act → World → Prop} {a : Act} {w : World}
    (hro : F.round = none) (h1 : 1 ≤ n) {gf : Nat} {lb : Array Value} (hg : a.eval g = .func (.func gf) #[] lb) (hFg : F.fn gf) (eg : ∀ args w, (callFunc gf args).run P w = .ok (.enter gf args) w)
    {encs : α → Array Value} {Ab Kp : World → World → Prop} {qs : List α} (hseq : HandsOut F (n - 1) P gf lb encs Ab Kp qs w) (hps : ∀ x, (encs x).size = ps.size)
    (hAk : ∀ {A B : World}, Ab A B → KeepsOthers A B) (hKt : ∀ {A B C : World}, Kp A B → Kp B C → Kp A C) (hKa : ∀ (W : World) (o : Obj), Kp W (W.alloc o))
    (hKb : ∀ (W : World) (l : Nat) (o o' : Obj), w.heap.size ≤ l → W.heap[l]? = some o → o.isCells = false → Kp W (W.putObj l o'))
    (I : List α → World → Prop) (hI : OwnFrom w.heap.size I) (hIa : ∀ s A B, I s A → Ab A B → I s B) (h0 : I [] w) (a₁ : α → Act)
    (hassign : ∀ (l : Nat) (x : α) (W : World) (K : Act → World → Prop), K (a₁ x) W →
      assign.wpIn (F.inRound l) (n - 1 - 1) P (Exit.then K (fun _ _ _ => False)) { tmps := (ps.zip (encs x)).foldl (fun t (p, v) => t.setIfInBounds p v) a.tmps, defers := [] } W)
    (hbody : ∀ (l : Nat) (pre : List α) (x : α) (W : World), I pre W → pre.length < qs.length → body.wpIn (F.inRound l) (n - 1 - 1) P (ownPostK Kp I (fun _ _ _ => False) (pre ++ [x]) W) (a₁ x) W)
    (hdone : ∀ (D : Nat) (W : World), w.heap.size ≤ D → I qs W → W.heap[D]? = some (.deferred (some [])) → Q .normal { a with defers := { target := .collected D, args := #[] } :: a.defers } W) :
    (Code.rangeFunc g ps assign body).wpIn F n P Q a w := by
  refine wpIn_rangeFunc (fun fn hfn => ?_)
  rw [hro]
  obtain ⟨r, hr⟩ : ∃ r : Loop, r = { state := .ready, pending := none, fn, tmps := a.tmps, params := ps, assign, body, defers := w.heap.size } := ⟨_, rfl⟩
  have he := run_enterLoop_outer (P := P) (w := w) fn a.tmps ps assign body
  rw [← hr] at he
  have hop := Opened.made w r
  have hi0 : I [] ((w.alloc (.deferred (some []))).alloc (.loop r)) := hI.alloc _ (hI.alloc _ h0)
  have hk0 : Kp w ((w.alloc (.deferred (some []))).alloc (.loop r)) := hKt (hKa _ _) (hKa _ _)
  generalize (w.alloc (.deferred (some []))).alloc (.loop r) = V at *
  have back : ∀ s : Loop, s = { r with state := .busy } → ({ s with state := .ready, pending := none } : Loop) = r := fun s hs => by rw [hs, hr]
  refine ⟨w.heap.size + 1, [{ target := .collected w.heap.size, args := #[] }], V, { target := .fn (.func gf) lb, args := #[.func (.yield (w.heap.size + 1)) #[] #[]] }, V, gf,
    #[.func (.yield (w.heap.size + 1)) #[] #[]] ++ lb, V, he, ?_, ?_, ?_, fun _ => h1, ?_⟩
  · simp only [resolve, hg]
    simp [go_sem]
  · intro f' hf'
    simp [Target.leads] at hf'
    subst hf'
    exact hFg
  · simp [invoke, go_sem, eg]
  · refine (hseq (w.heap.size + 1) (fun pre W => I pre W ∧ Opened w.heap.size r W) V hk0 (fun s A B hs hab => ⟨hIa _ _ _ hs.1 hab, hs.2.keeps (hAk hab)⟩) ?_ ⟨hi0, hop⟩).mono ?_
    · rintro pre x W ⟨hiW, hoW⟩ hlen
      have hy := run_yield (P := P) (args := encs x) hoW.rcd (by rw [hr]; exact hps x)
      have hbg := run_beginRound (P := P) hoW.rcd (by rw [hr])
      obtain ⟨s, hs⟩ : ∃ s : Loop, s = { r with state := .busy } := ⟨_, rfl⟩
      rw [← hs] at hbg
      have hob := hoW.put s
      have hkb : Kp W (W.putObj (w.heap.size + 1) (.loop s)) := hKb _ _ _ _ (by omega) hoW.rcd rfl
      have hib : I pre (W.putObj (w.heap.size + 1) (.loop s)) := hI.putObj _ hiW (by omega) hoW.rcd rfl
      have hbk := back s hs
      rw [hr] at hy
      refine ⟨fn, _, assign, body, hy, roundIn_of_wpIn hfn (hassign _ x W _ ⟨_, hbg, wpIn_mono (hbody _ pre x _ hib hlen) ?_⟩)⟩
      rintro e a3 W3 hp
      cases e with
      | normal =>
        obtain ⟨k3, kp3, i3⟩ := hp
        have h3 := hob.keeps k3
        have hen := run_endRound (P := P) none h3.rcd
        simp only [Option.isNone_none, if_true] at hen
        rw [hbk] at hen
        exact ⟨_, _, hen, rfl, ⟨hI.putObj _ i3 (by omega) h3.rcd rfl, h3.put r⟩, hKt (hKt hkb kp3) (hKb _ _ _ _ (by omega) h3.rcd rfl)⟩
      | ret => exact hp.2.elim
      | exit id => exact hp.2.elim
      | goto t => exact hp.2.elim
      | panic ch => exact hp.elim
      | outgrown => exact hp.elim
    · rintro e W2 ⟨⟨v, rfl⟩, hi2, ho2⟩
      have hen := run_endLoop (P := P) ho2.rcd (by rw [hr]; simp)
      refine ⟨none, _, by rw [hen, hr], hdone _ _ (Nat.le_refl _) (hI.putObj _ hi2 (by omega) ho2.rcd rfl) ((World.putObj_heap_other (by omega)).trans ho2.dfr)⟩
end Go.Proofs.YtdnbkjiijpeiiaaGreat.Round
/- A region that draws its order and ends in one store: its loads may be taken first under a condition that is asked only till that store; in a plain frame and in a round of a loop over a function. Nothing of the program stands here. -/
namespace Go.Proofs.YtdnbkjiijpeiiaaGreat.Till
open Go
section
variable {P : Program} {ops : Array Oper} {md : Region.Mode} {S : World → Prop} {R : Act → World → Prop}
/-- What one operation leads to that is carried out, makes no defer and does not panic. -/
def uponT (P : Program) (o : Oper) (a : Act) (next : Act → World → Prop) : Result Next → Prop
  | .ok (.value v) w' => next (a.put o.dst v) w'
  | .ok .skip w' => next (a.put o.dst undef) w'
  | .ok (.enter f args) w' => Calls P f args w' fun
      | .returned v, w'' => next (a.put o.dst v) w''
      | _, _ => False
  | _ => False
theorem uponT_mono {o : Oper} {a : Act} {K K' : Act → World → Prop} (h : ∀ a w, K a w → K' a w) {r : Result Next} (hr : uponT P o a K r) : uponT P o a K' r := by
  cases r with
  | ok x w' =>
    cases x <;> first
      | exact h _ _ hr
      | exact Calls.mono hr (fun e w'' he => by cases e <;> first | exact h _ _ he | exact he)
      | exact hr.elim
  | halt x w' => exact hr.elim
def opT (P : Program) (ops : Array Oper) (i : Nat) (K : Act → World → Prop) (a : Act) (w : World) : Prop :=
  ∃ o, ops[i]? = some o ∧ o.guard = none ∧ (∀ c, o.op ≠ .defer c) ∧ uponT P o a K ((execOp a.eval o).run P w)
theorem opT_mono {i : Nat} {a : Act} {w : World} {K K' : Act → World → Prop} (h : ∀ a w, K a w → K' a w) (hh : opT P ops i K a w) : opT P ops i K' a w := by
  obtain ⟨o, h1, h2, h3, h4⟩ := hh
  exact ⟨o, h1, h2, h3, uponT_mono h h4⟩
/-- Whatever order is picked; S is asked behind each operation but t. -/
def wpT (P : Program) (md : Region.Mode) (ops : Array Oper) (S : World → Prop) (t : Nat) (R : Act → World → Prop) : Nat → Array Bool → Act → World → Prop
  | 0, listed, a, w => Region.ready md ops listed = [] ∧ R a w
  | k + 1, listed, a, w => (Region.ready md ops listed = [] → R a w) ∧ ∀ i ∈ Region.ready md ops listed, opT P ops i (fun a' w' => (i ≠ t → S w') ∧ wpT P md ops S t R k (listed.setIfInBounds i true) a' w') a w
theorem any_of {Q : Exit → Act → World → Prop} {t : Nat} (hR : ∀ a w, R a w → Q .normal a w) : ∀ (k : Nat) (listed : Array Bool) (a : Act) (w : World), wpT P md ops S t R k listed a w → wpAny P md ops Q k listed a w
  | 0, _, _, _, h => ⟨h.1, hR _ _ h.2⟩
  | k + 1, listed, a, w, h => ⟨fun h0 => hR _ _ (h.1 h0), fun i hi => by
      obtain ⟨o, ho, hg, hd, hu⟩ := h.2 i hi
      unfold wpOp
      rw [ho]
      dsimp only
      rw [if_pos (by simp [Region.wanted, hg])]
      refine .inl ?_
      unfold Oper.wp
      generalize (execOp a.eval o).run P w = r at *
      cases r with
      | ok x w' =>
        cases x <;> first
          | exact any_of hR k _ _ _ hu.2
          | exact Calls.mono hu (fun e w'' he => by cases e <;> first | exact any_of hR k _ _ _ he.2 | exact he.elim)
          | exact hu.elim
      | halt x w' => exact hu.elim⟩
theorem anyIn_of {Q : Exit → Act → World → Prop} {t l n : Nat} (hR : ∀ a w, R a w → Q .normal a w) : ∀ (k : Nat) (listed : Array Bool) (a : Act) (w : World), wpT P md ops S t R k listed a w → wpAnyIn (Fence.wide.inRound l) n P md ops Q k listed a w
  | 0, _, _, _, h => ⟨h.1, hR _ _ h.2⟩
  | k + 1, listed, a, w, h => ⟨fun h0 => hR _ _ (h.1 h0), fun i hi => by
      obtain ⟨o, ho, hg, hd, hu⟩ := h.2 i hi
      unfold wpOpIn
      rw [ho]
      dsimp only
      rw [if_pos (by simp [Region.wanted, hg])]
      refine ⟨fun _ _ => trivial, ?_⟩
      rw [show (Fence.wide.inRound l).round = some l from rfl, Oper.semAt_some l _ _ hd]
      generalize (execOp a.eval o).run P w = r at *
      cases r with
      | ok x w' =>
        cases x <;> first
          | exact anyIn_of hR k _ _ _ hu.2
          | exact ⟨fun h => by simp [Fence.wide] at h, CallsIn.inRound l (callsIn_wide.2 (Calls.mono hu (fun e w'' he => by cases e <;> first | exact anyIn_of hR k _ _ _ he.2 | exact he.elim)))⟩
          | exact hu.elim
      | halt x w' => exact hu.elim⟩
def YieldsT (P : Program) (S : World → Prop) (o : Oper) (v : Value) (a : Act) : Prop := ∀ w, S w → (execOp a.eval o).run P w = .ok (.value v) w
theorem put_step {j : Nat} {oi oj : Oper} {v : Value} (hj : ops[j]? = some oj) (hap : oi.apart ops oj = true) (hsi : ∀ cs b, oi.op ≠ .select cs b) (hsj : ∀ cs b, oj.op ≠ .select cs b) {K : Act → World → Prop} {a : Act} {w : World}
    (hy : YieldsT P S oi v a) (h : opT P ops j K (a.put oi.dst v) w) : opT P ops j (fun a' w' => YieldsT P S oi v a' ∧ K (a'.put oi.dst v) w') a w := by
  obtain ⟨h1, h2, h3⟩ := Oper.apart_spec hap
  have keep : ∀ u, YieldsT P S oi v (a.put oj.dst u) := fun u w hS => by
    rw [execOp_put (ops := ops) oi hsi a oj.dst u h3]
    exact hy w hS
  obtain ⟨o, ho, hg, hd, hu⟩ := h
  obtain rfl : o = oj := Option.some.inj (ho.symm.trans hj)
  refine ⟨o, hj, hg, hd, ?_⟩
  rw [execOp_put (ops := ops) o hsj a oi.dst v h1] at hu
  generalize (execOp a.eval o).run P w = r at *
  cases r with
  | ok x w' =>
    cases x <;> first
      | exact ⟨keep _, by rw [← Act.put_comm a v _ h2]; exact hu⟩
      | exact Calls.mono hu (fun e w'' he => by cases e <;> first | exact ⟨keep _, by rw [← Act.put_comm a v _ h2]; exact he⟩ | exact he)
      | exact hu.elim
  | halt x w' => exact hu.elim
theorem first {i t : Nat} {oi ot : Oper} {v : Value} (hi : ops[i]? = some oi) (hg : oi.guard = none) (hd : ∀ c, oi.op ≠ .defer c) (hne : i ≠ t) (ht : ops[t]? = some ot) (hw : ∃ e ∈ ot.after, Region.binds md e = true ∧ e.on = i)
    (hsel : ∀ (j : Nat) (o : Oper) cs b, ops[j]? = some o → o.op ≠ .select cs b) :
    ∀ (k : Nat) (listed : Array Bool) (a : Act) (w : World),
      (∀ j oj, ops[j]? = some oj → j ≠ i → listed.getD j true = false → (∀ e ∈ oj.after, Region.binds md e = true → e.on ≠ i) → oi.apart ops oj = true) →
      i ∈ Region.ready md ops listed → YieldsT P S oi v a → S w →
      wpT P md ops S t R k (listed.setIfInBounds i true) (a.put oi.dst v) w → wpT P md ops S t R (k + 1) listed a w := by
  intro k
  induction k with
  | zero =>
    intro listed a w _ hr hy hS H
    refine ⟨fun h => (by rw [h] at hr; cases hr), fun j hj => ?_⟩
    have hji : j = i := by
      by_cases h : j = i
      · exact h
      · have := ready_mono hj h
        rw [H.1] at this
        cases this
    subst hji
    exact ⟨oi, hi, hg, hd, by rw [hy w hS]; exact ⟨fun _ => hS, H⟩⟩
  | succ k ih =>
    intro listed a w hfree hr hy hS H
    refine ⟨fun h => (by rw [h] at hr; cases hr), fun j hj => ?_⟩
    by_cases hji : j = i
    · subst hji
      exact ⟨oi, hi, hg, hd, by rw [hy w hS]; exact ⟨fun _ => hS, H⟩⟩
    · obtain ⟨hjun, oj, hoj, hall⟩ := mem_ready.1 hj
      have hun : ∀ e ∈ oj.after, Region.binds md e = true → e.on ≠ i := fun e he hb heq => by
        have ha := hall e he hb
        have hb0 := (mem_ready.1 hr).1
        rw [heq] at ha
        rcases Nat.lt_or_ge i listed.size with hl | hl
        · simp [hl] at hb0 ha; rw [hb0] at ha; cases ha
        · simp [Array.getElem?_eq_none hl] at ha
      have hjt : j ≠ t := fun e => by
        subst e
        obtain rfl : oj = ot := Option.some.inj (hoj.symm.trans ht)
        obtain ⟨e, he, hb, hon⟩ := hw
        exact hun e he hb hon
      have hs := put_step hoj (hfree j oj hoj hji hjun hun) (fun cs b => hsel i oi cs b hi) (fun cs b => hsel j oj cs b hoj) hy (H.2 j (ready_mono hj hji))
      refine opT_mono (fun a' w' h3 => ?_) hs
      have hS' := h3.2.1 hjt
      refine ⟨fun _ => hS', ih (listed.setIfInBounds j true) a' w' (fun m om hm hmi hmun hno => hfree m om hm hmi (by
        by_cases hjm : j = m
        · rw [← hjm]; exact hjun
        · rw [getD_set_ne true hjm] at hmun; exact hmun) hno) (ready_mono hr (Ne.symm hji)) h3.1 hS' ?_⟩
      rw [Array.setIfInBounds_comm _ _ hji]
      exact h3.2.2
/-- t waits for i. -/
def waits (md : Region.Mode) (ops : Array Oper) (t i : Nat) : Bool := match ops[t]? with | some o => o.after.any (fun e => Region.binds md e && e.on == i) | none => false
def isDefer : Op → Bool | .defer _ => true | _ => false
theorem not_defer {o : Op} (h : isDefer o = false) : ∀ c, o ≠ .defer c := fun c e => by subst e; cases h
theorem take {i t : Nat} {oi : Oper} {v : Value} {k : Nat} {listed : Array Bool} {a : Act} {w : World} (hi : ops[i]? = some oi) (hg : oi.guard = none) (hd : isDefer oi.op = false) (hne : Nat.beq i t = false) (hw : waits md ops t i = true)
    (hs : Region.noSelect ops = true) (hf : Region.free md ops listed i = true) (hr : (Region.ready md ops listed).contains i = true) (hS : S w) (hy : YieldsT P S oi v a)
    (h : wpT P md ops S t R k (listed.setIfInBounds i true) (a.put oi.dst v) w) : wpT P md ops S t R (k + 1) listed a w := by
  unfold waits at hw
  cases ht : ops[t]? with
  | none => rw [ht] at hw; cases hw
  | some ot =>
    rw [ht] at hw
    obtain ⟨e, he, hb⟩ := Array.any_eq_true'.1 hw
    simp only [Bool.and_eq_true, beq_iff_eq] at hb
    exact first hi hg (not_defer hd) (Nat.ne_of_beq_eq_false hne) ht ⟨e, he, hb.1, hb.2⟩ (Region.noSelect_spec hs) k listed a w (Region.free_spec hi hf) (by simpa using hr) hy hS h
/-- The only one that may come up. -/
theorem next {i t : Nat} {o : Oper} {k : Nat} {listed : Array Bool} {a : Act} {w : World} (hr : Region.ready md ops listed = [i]) (ho : ops[i]? = some o) (hg : o.guard = none) (hd : isDefer o.op = false)
    (h : uponT P o a (fun a' w' => (i ≠ t → S w') ∧ wpT P md ops S t R k (listed.setIfInBounds i true) a' w') ((execOp a.eval o).run P w)) : wpT P md ops S t R (k + 1) listed a w := by
  refine ⟨fun h0 => (by rw [hr] at h0; cases h0), fun j hj => ?_⟩
  rw [hr] at hj
  obtain rfl : j = i := by simpa using hj
  exact ⟨o, ho, hg, not_defer hd, h⟩
theorem call {i t : Nat} {o : Oper} {k : Nat} {listed : Array Bool} {a : Act} {w : World} {f : FuncId} {args : Array Value} (hr : Region.ready md ops listed = [i]) (ho : ops[i]? = some o) (hg : o.guard = none) (hd : isDefer o.op = false) (he : (execOp a.eval o).run P w = .ok (.enter f args) w)
    (h : Calls P f args w fun e w'' => ∃ v, e = .returned v ∧ (i ≠ t → S w'') ∧ wpT P md ops S t R k (listed.setIfInBounds i true) (a.put o.dst v) w'') : wpT P md ops S t R (k + 1) listed a w :=
  next hr ho hg hd (by
    rw [he]
    exact Calls.mono h (fun e w'' he => by obtain ⟨v, rfl, h1⟩ := he; exact h1))
theorem value {i t : Nat} {o : Oper} {k : Nat} {listed : Array Bool} {a : Act} {w w' : World} {v : Value} (hr : Region.ready md ops listed = [i]) (ho : ops[i]? = some o) (hg : o.guard = none) (hd : isDefer o.op = false) (he : (execOp a.eval o).run P w = .ok (.value v) w') (hS : i ≠ t → S w')
    (h : wpT P md ops S t R k (listed.setIfInBounds i true) (a.put o.dst v) w') : wpT P md ops S t R (k + 1) listed a w :=
  next hr ho hg hd (by rw [he]; exact ⟨hS, h⟩)
/-- A literal: a block is made. -/
theorem lit {i t m : Nat} {o : Oper} {k : Nat} {listed : Array Bool} {a : Act} {w : World} {ob : Obj} (hr : Region.ready md ops listed = [i]) (ho : ops[i]? = some o) (hg : o.guard = none) (hd : isDefer o.op = false) (he : (execOp a.eval o).run P w = .ok (.value (.slice (some ⟨w.heap.size, 0, none⟩) m m)) (w.alloc ob))
    (h : ∀ (b : Nat) (w' : World), b = w.heap.size → w' = w.alloc ob → (i ≠ t → S w') ∧ wpT P md ops S t R k (listed.setIfInBounds i true) (a.put o.dst (.slice (some ⟨b, 0, none⟩) m m)) w') : wpT P md ops S t R (k + 1) listed a w :=
  next hr ho hg hd (by rw [he]; exact h _ _ rfl rfl)
theorem skip {i t : Nat} {o : Oper} {k : Nat} {listed : Array Bool} {a : Act} {w w' : World} (hr : Region.ready md ops listed = [i]) (ho : ops[i]? = some o) (hg : o.guard = none) (hd : isDefer o.op = false) (he : (execOp a.eval o).run P w = .ok .skip w') (hS : i ≠ t → S w')
    (h : wpT P md ops S t R k (listed.setIfInBounds i true) (a.put o.dst undef) w') : wpT P md ops S t R (k + 1) listed a w :=
  next hr ho hg hd (by rw [he]; exact ⟨hS, h⟩)
theorem done {t : Nat} {listed : Array Bool} {a : Act} {w : World} (hr : Region.ready md ops listed = []) (h : R a w) : ∀ k, wpT P md ops S t R k listed a w
  | 0 => ⟨hr, h⟩
  | _ + 1 => ⟨fun _ => h, by rw [hr]; simp⟩
theorem region {Q : Exit → Act → World → Prop} {id t : Nat} {a : Act} {w : World} (hm : P.follows .mixedOrders = true) (S : World → Prop) (R : Act → World → Prop) (h : wpT P .any ops S t R ops.size (Array.replicate ops.size false) a w.drew) (hR : ∀ a w, R a w → Q .normal a w) : (Code.region id ops true).wp P Q a w :=
  wp_region_any hm (any_of hR _ _ _ _ h)
theorem regionIn {Q : Exit → Act → World → Prop} {id t l n : Nat} {a : Act} {w : World} (hm : P.follows .mixedOrders = true) (S : World → Prop) (R : Act → World → Prop) (h : wpT P .any ops S t R ops.size (Array.replicate ops.size false) a w.drew) (hR : ∀ a w, R a w → Q .normal a w) : (Code.region id ops true).wpIn (Fence.wide.inRound l) n P Q a w :=
  wpIn_region_any hm (anyIn_of hR _ _ _ _ h)
end
end Go.Proofs.YtdnbkjiijpeiiaaGreat.Till
/- A polynomial through points, built point by point. Nothing of the program stands here. -/
namespace Go.Proofs.YtdnbkjiijpeiiaaGreat.MGF
/-- The inverse, or 1. -/
def inv0 (x : B) : B := if x = 0 then 1 else inv x
theorem inv0_ne {x : B} (h : x ≠ 0) : inv0 x = inv x := by unfold inv0; rw [if_neg h]
def nwMend (p : List B × List B) (q : B × B) : B := mul (ev p.1 q.1 ^^^ q.2) (inv0 (ev p.2 q.1))
/-- What is through the points so far, and what is 0 at each of them: one point more. -/
def nwStep (p : List B × List B) (q : B × B) : List B × List B := (trim (addP p.1 (trim (mulP p.2 (trim [nwMend p q])))), trim (mulP p.2 [q.1, 1]))
def nw (qs : List (B × B)) : List B × List B := qs.foldl nwStep ([], [1])
theorem nw_nil : nw [] = ([], [1]) := rfl
theorem nw_snoc (qs : List (B × B)) (q : B × B) : nw (qs ++ [q]) = nwStep (nw qs) q := by unfold nw; rw [List.foldl_append]; rfl
theorem ev_lin (x z : B) : ev [x, 1] z = x ^^^ z := by
  rw [ev_cons, ev_one, mul_one]
theorem nw_ahead (qs : List (B × B)) (q : B × B) (z : B) : ev (nw (qs ++ [q])).2 z = mul (ev (nw qs).2 z) (q.1 ^^^ z) := by
  rw [nw_snoc, nwStep, ev_trim, ev_mulP, ev_lin]
theorem nw_line (qs : List (B × B)) (q : B × B) (z : B) : ev (nw (qs ++ [q])).1 z = ev (nw qs).1 z ^^^ mul (ev (nw qs).2 z) (nwMend (nw qs) q) := by
  rw [nw_snoc, nwStep, ev_trim, ev_addP, ev_trim, ev_mulP, ev_single]
theorem snoc_ind {α : Type} {C : List α → Prop} (h0 : C []) (hs : ∀ l a, C l → C (l ++ [a])) (l : List α) : C l := by
  have : ∀ m : List α, C m.reverse := fun m => by
    induction m with
    | nil => exact h0
    | cons a m ih => rw [List.reverse_cons]; exact hs _ _ ih
  have h := this l.reverse
  rwa [List.reverse_reverse] at h
theorem ahead_zero (qs : List (B × B)) : ∀ q ∈ qs, ev (nw qs).2 q.1 = 0 := by
  induction qs using snoc_ind with
  | h0 => intro q hq; cases hq
  | hs l a ih =>
    intro q hq
    rw [nw_ahead]
    rcases List.mem_append.1 hq with h | h
    · rw [ih q h, zero_mul]
    · obtain rfl := List.mem_singleton.1 h
      rw [xself, mul_zero]
theorem ahead_ne (qs : List (B × B)) (z : B) (h : ∀ q ∈ qs, q.1 ≠ z) : ev (nw qs).2 z ≠ 0 := by
  induction qs using snoc_ind with
  | h0 => rw [nw_nil, ev_one]; decide
  | hs l a ih =>
    rw [nw_ahead]
    refine mul_ne (ih (fun q hq => h q (List.mem_append_left _ hq))) (fun e => h a (by simp) (xor_eq_zero e))
theorem line_at (qs : List (B × B)) (hd : (xsOf qs).Nodup) : ∀ q ∈ qs, ev (nw qs).1 q.1 = q.2 := by
  induction qs using snoc_ind with
  | h0 => intro q hq; cases hq
  | hs l a ih =>
    unfold xsOf at hd ih
    rw [List.map_append, List.nodup_append] at hd
    obtain ⟨h1, _, h3⟩ := hd
    intro q hq
    rw [nw_line]
    rcases List.mem_append.1 hq with h | h
    · rw [ih h1 q h, ahead_zero l q h, zero_mul, xor0]
    · obtain rfl := List.mem_singleton.1 h
      have hne : ev (nw l).2 q.1 ≠ 0 := ahead_ne l q.1 (fun p hp e => h3 p.1 (List.mem_map.2 ⟨p, hp, rfl⟩) q.1 (by simp) e)
      unfold nwMend
      rw [inv0_ne hne, mul_comm (ev (nw l).1 q.1 ^^^ q.2), ← mul_assoc, mul_inv hne, one_mul, ← BitVec.xor_assoc, xself, zxor]
theorem nw_length (qs : List (B × B)) : (nw qs).1.length ≤ qs.length ∧ (nw qs).2.length ≤ qs.length + 1 := by
  induction qs using snoc_ind with
  | h0 => exact ⟨Nat.le_refl _, Nat.le_refl _⟩
  | hs l a ih =>
    rw [nw_snoc, nwStep, List.length_append]
    refine ⟨?_, ?_⟩
    · refine Nat.le_trans (length_trim _) ?_
      rw [length_addP]
      have h1 := length_trim_mul (nw l).2 (trim [nwMend (nw l) a])
      have h2 := length_trim [nwMend (nw l) a]
      simp only [List.length_cons, List.length_nil] at h2 ⊢
      omega
    · have h1 := length_trim_mul (nw l).2 [a.1, 1]
      simp only [List.length_cons, List.length_nil] at h1 ⊢
      omega
theorem nw_right (qs : List (B × B)) : Right (nw qs).1 := by
  induction qs using snoc_ind with
  | h0 => intro h; exact absurd rfl h
  | hs l a _ => rw [nw_snoc, nwStep]; exact trim_right _
/-- It is what the model tells. -/
theorem nw_thr {qs : List (B × B)} (hd : (xsOf qs).Nodup) : (nw qs).1 = thrS qs qs.length :=
  thr_unique hd (nw_right qs) (nw_length qs).1 (fun j hj => by
    have hm : qs.getD j (0, 0) ∈ qs := by rw [getD_mem _ hj]; exact List.getElem_mem _
    exact line_at qs hd _ hm)
end Go.Proofs.YtdnbkjiijpeiiaaGreat.MGF
/- The program's iterator over points: what it hands out. -/
namespace Go.Proofs.YtdnbkjiijpeiiaaGreat
open Go.RowKit Go.PlainAid G MGF IRow
set_option linter.unusedVariables false
/-- All blocks below n but f lie as they lay. -/
structure Keep (n f : Nat) (w u : World) : Prop where
  os : u.os = w.os
  tape : u.tape = w.tape
  output : u.output = w.output
  size : w.heap.size ≤ u.heap.size
  block : ∀ k, k < n → k < w.heap.size → k ≠ f → u.heap[k]? = w.heap[k]?
theorem Keep.refl (n f : Nat) (w : World) : Keep n f w w := ⟨rfl, rfl, rfl, Nat.le_refl _, fun _ _ _ _ => rfl⟩
theorem Keep.trans {n f : Nat} {a b c : World} (h : Keep n f a b) (k : Keep n f b c) : Keep n f a c :=
  ⟨k.os.trans h.os, k.tape.trans h.tape, k.output.trans h.output, Nat.le_trans h.size k.size, fun i hi hs hf => (k.block i hi (Nat.lt_of_lt_of_le hs h.size) hf).trans (h.block i hi hs hf)⟩
theorem Keep.grown {n f : Nat} {w u v : World} (h : Keep n f w u) {row : Option Nat} (hg : u.grownBy v row) (hr : ∀ r, row = some r → n ≤ r ∨ r = f) : Keep n f w v :=
  h.trans ⟨hg.os, hg.tape, hg.output, hg.size, fun k hk hs hf => hg.block k hs (fun e => by rcases hr k e.symm with h | h <;> omega)⟩
theorem Keep.fat {n f : Nat} {w u v : World} (h : Keep n f w u) (k : FAt u f v) : Keep n f w v := h.grown k.grown (fun r e => .inr (by simpa using e.symm))
theorem Keep.below {n f : Nat} {w u v : World} (h : Keep n f w u) (hb : Below u.heap.size u v) : Keep n f w v := h.grown (fg_below (row := none) hb) (fun r e => by cases e)
theorem Keep.alloc {n f : Nat} {w u : World} (h : Keep n f w u) (o : Obj) : Keep n f w (u.alloc o) := h.grown (World.grownBy_alloc u o none) (fun r e => by cases e)
theorem Keep.set {n f : Nat} {w u : World} (h : Keep n f w u) {b : Nat} (hb : n ≤ b) (i : Nat) (v : Value) : Keep n f w (u.setCell ⟨b, i, none⟩ v) := h.grown (grown_set u b i v) (fun r e => by cases e; exact .inl hb)
theorem Keep.cell {n f : Nat} {w u : World} (h : Keep n f w u) {b i : Nat} {v : Value} (hc : w.cell? ⟨b, i, none⟩ = some v) (hb : b < n) (hf : b ≠ f) : u.cell? ⟨b, i, none⟩ = some v :=
  (World.cell?_of_block (h.block b hb (World.block_lt_of_cell? w ⟨b, i, none⟩ hc) hf)).trans hc
theorem Keep.drew {n f : Nat} {w u : World} (h : Keep n f w u) : Keep n f w u.drew := ⟨h.os, h.tape, h.output, h.size, h.block⟩
theorem Keep.mono {n m f : Nat} {w u : World} (h : Keep n f w u) (hm : m ≤ n) : Keep m f w u := ⟨h.os, h.tape, h.output, h.size, fun k hk hs hf => h.block k (by omega) hs hf⟩
/-- What the rounds of a range over points keep of a field and of what is older than n. -/
def Kp (n f : Nat) (A C : World) : Prop := Fld A f → Fld C f ∧ Keep n f A C
theorem Kp.trans {n f : Nat} {A C D : World} (h : Kp n f A C) (k : Kp n f C D) : Kp n f A D := fun ha => ⟨(k (h ha).1).1, (h ha).2.trans (k (h ha).1).2⟩
theorem Kp.alloc (n f : Nat) (W : World) (o : Obj) : Kp n f W (W.alloc o) := fun ha => ⟨ha.alloc o, (Keep.refl _ _ _).alloc o⟩
theorem Fld.isCells {w : World} {f : Nat} (h : Fld w f) : ∃ o : Obj, w.heap[f]? = some o ∧ o.isCells = true := by
  rcases h with h1 | h1 <;> exact cells_of_cell (h1.2 0 (by omega)).1
theorem Kp.put {n f m : Nat} (hn : n ≤ m) (W : World) (l : Nat) (o o' : Obj) (hl : m ≤ l) (h : W.heap[l]? = some o) (ho : o.isCells = false) : Kp n f W (W.putObj l o') := fun ha => by
  obtain ⟨ob, hob, hcb⟩ := ha.isCells
  have hne : f ≠ l := fun e => by subst e; rw [h] at hob; cases hob; rw [ho] at hcb; cases hcb
  exact ⟨ha.grown (grownBy_putObj' W l o') (fun e => hne (by simpa using e)), (Keep.refl _ _ _).grown (grownBy_putObj' W l o') (fun r e => by cases e; left; omega)⟩
/-- A function that hands out points, whose steps may turn a field. -/
abbrev Points (n gf : Nat) (lb : Array Value) (f : Nat) (qs : List (B × B)) (w : World) : Prop :=
  Round.HandsOut Fence.wide 2 Tryz.prog gf lb (fun x : B × B => #[Value.int .u8 (bi x.1), Value.int .u8 (bi x.2)]) (fun A C => Fld A f ∧ FAt A f C) (Kp n f) qs w
end Go.Proofs.YtdnbkjiijpeiiaaGreat
/- The inverse of whatever byte; what the program's through keeps from point to point. -/
namespace Go.Proofs.YtdnbkjiijpeiiaaGreat
open Go.RowKit Go.PlainAid G MGF IRow
set_option linter.unusedVariables false
set_option maxRecDepth 100000 in
set_option maxHeartbeats 1600000 in
theorem inverse0_any (b : Nat) (x : B) (w : World) (h : Fld w b) :
    Calls Tryz.prog 57 #[.pointer (some ⟨b, 0, none⟩), .int .u8 (bi x)] w fun e w' => e = .returned (.int .u8 (bi (inv0 x))) ∧ Fld w' b ∧ w.grownBy w' (some b) := by
  by_cases hx : x = 0
  · subst hx
    rw [show bi (inv0 0) = 1 from rfl, bi_zero]
    have hpw := Lib.hid (power_any b 255)
    have hlog : ∀ u, Fld u b → Calls Tryz.prog 75 #[.pointer (some ⟨b, 0, none⟩), .int .u8 0] u fun e w' => e = .returned (.int .i64 0) ∧ Fld w' b ∧ u.grownBy w' (some b) := by
      intro u hu
      have H := Lib.hid hu
      clear hu
      go_enter Tryz.func75, Tryz.ntmps75
      go_wp2_with fail
      refine (do_any b _ H.out).mono ?_
      rintro e w2 ⟨rfl, hb2, hg2⟩
      obtain ⟨hc, hf⟩ := hb2.2 258 (by omega)
      rw [show FK (hdC 1 0) 255 258 = .int .u8 0 from rfl] at hc
      have HB2 := Lib.hid hb2
      have HG2 := Lib.hid hg2
      clear hb2 hg2
      go_wp2_with fail
      go_ret
      exact ⟨rfl, .inr HB2.out, HG2.out⟩
    have HL := Lib.hid hlog
    have H := Lib.hid h
    clear hlog h
    go_enter Tryz.func57, Tryz.ntmps57
    go_wp2_with fail
    refine (HL.out _ H.out).mono ?_
    rintro e w1 ⟨rfl, h1, hg1⟩
    have H1 := Lib.hid h1
    have G1 := Lib.hid hg1
    clear h1 hg1
    go_wp2_with fail
    refine (hpw.out _ H1.out (by decide)).mono ?_
    rintro e w3 ⟨rfl, h3, hg3⟩
    have H3 := Lib.hid h3
    have G3 := Lib.hid (grown_trans G1.out hg3)
    clear h3 hg3
    go_wp2_with fail
    go_ret
    exact ⟨rfl, H3.out, G3.out⟩
  · rw [inv0_ne hx]
    exact inverse_any b x w h hx
/-- A pointer in a block of its own. -/
def FBox (u : World) (b f : Nat) : Prop := ∃ t, u.heap[b]? = some (.cells #[.pointer (some ⟨f, 0, none⟩)] t (0, 0))
theorem FBox.grown {u v : World} {b f : Nat} (h : FBox u b f) {row : Option Nat} (hg : u.grownBy v row) (hne : some b ≠ row) : FBox v b f := by
  obtain ⟨t, h⟩ := h
  exact ⟨t, (hg.block b (Array.getElem?_eq_some_iff.1 h).1 hne).trans h⟩
theorem FBox.cell {u : World} {b f : Nat} (h : FBox u b f) : u.cell? ⟨b, 0, none⟩ = some (.pointer (some ⟨f, 0, none⟩)) := by
  obtain ⟨t, h⟩ := h
  rw [cell_of_row u b 0 _ _ _ h]; rfl
/-- What through holds between two points: its field, the pointer to it, what is through the points so far, what is 0 at them, the place of its answer. -/
structure TS (w : World) (f fb lb ab rb : Nat) (p : List B × List B) (aL : Option Addr) (kL cL : Nat) (aA : Option Addr) (kA cA : Nat) (u : World) : Prop where
  fa : FAt w f u
  fbx : FBox u fb f
  line : PBox u lb (some ⟨f, 0, none⟩) aL kL cL
  ahead : PBox u ab (some ⟨f, 0, none⟩) aA kA cA
  out : PBox u rb none none 0 0
  rowL : BR f u aL kL cL p.1
  rowA : BR f u aA kA cA p.2
/-- The blocks lie apart, and are newer than the field. -/
structure Apart (w : World) (f fb lb ab rb : Nat) : Prop where
  hf : f < w.heap.size
  hfb : w.heap.size ≤ fb
  hlb : w.heap.size ≤ lb
  hab : w.heap.size ≤ ab
  hrb : w.heap.size ≤ rb
  nfl : fb ≠ lb
  nfa : fb ≠ ab
  nla : lb ≠ ab
  nrl : rb ≠ lb
  nra : rb ≠ ab
theorem TS.grown {w : World} {f fb lb ab rb : Nat} {p : List B × List B} {aL aA : Option Addr} {kL cL kA cA : Nat} {u v : World} (h : TS w f fb lb ab rb p aL kL cL aA kA cA u) (ha : Apart w f fb lb ab rb) (k : FAt u f v) : TS w f fb lb ab rb p aL kL cL aA kA cA v := by
  obtain ⟨h0, h1, h2, h3, h4, h5⟩ := ha
  have ne : ∀ {b : Nat}, w.heap.size ≤ b → some b ≠ some f := fun hb e => by simp only [Option.some.injEq] at e; omega
  exact ⟨h.fa.step k, h.fbx.grown k.grown (ne h1), h.line.grown k.grown (ne h2), h.ahead.grown k.grown (ne h3), h.out.grown k.grown (ne h4), h.rowL.grown k.grown, h.rowA.grown k.grown⟩
theorem TS.below {w : World} {f fb lb ab rb : Nat} {p : List B × List B} {aL aA : Option Addr} {kL cL kA cA : Nat} {u v : World} (h : TS w f fb lb ab rb p aL kL cL aA kA cA u) (ha : Apart w f fb lb ab rb) (hb : Below u.heap.size u v) : TS w f fb lb ab rb p aL kL cL aA kA cA v :=
  h.grown ha ((FAt.start h.fa.fld).below hb)
/-- A new line is stored. -/
theorem TS.putL {w : World} {f fb lb ab rb : Nat} {p : List B × List B} {aL aA : Option Addr} {kL cL kA cA : Nat} {u : World} (h : TS w f fb lb ab rb p aL kL cL aA kA cA u) (ha : Apart w f fb lb ab rb) {P : List B} {a : Option Addr} {k c : Nat} (hr : BR f u a k c P) :
    TS w f fb lb ab rb (P, p.2) a k c aA kA cA ((u.setCell ⟨lb, 0, none⟩ (.pointer (some ⟨f, 0, none⟩))).setCell ⟨lb, 1, none⟩ (.slice a k c)) := by
  have hg1 := grown_set u lb 0 (.pointer (some ⟨f, 0, none⟩))
  have hg2 := grown_trans hg1 (grown_set _ lb 1 (.slice a k c))
  have ne : ∀ {b : Nat}, b ≠ lb → some b ≠ some lb := fun hb e => hb (by simpa using e)
  exact ⟨(h.fa.set ha.hlb ha.hf 0 _).set ha.hlb ha.hf 1 _, h.fbx.grown hg2 (ne ha.nfl), h.line.put _ _ _ _, h.ahead.grown hg2 (ne (Ne.symm ha.nla)), h.out.grown hg2 (ne ha.nrl), hr.put h.line _ _ _ _, h.rowA.put h.line _ _ _ _⟩
/-- A new one that is 0 at the points is stored. -/
theorem TS.putA {w : World} {f fb lb ab rb : Nat} {p : List B × List B} {aL aA : Option Addr} {kL cL kA cA : Nat} {u : World} (h : TS w f fb lb ab rb p aL kL cL aA kA cA u) (ha : Apart w f fb lb ab rb) {P : List B} {a : Option Addr} {k c : Nat} (hr : BR f u a k c P) :
    TS w f fb lb ab rb (p.1, P) aL kL cL a k c ((u.setCell ⟨ab, 0, none⟩ (.pointer (some ⟨f, 0, none⟩))).setCell ⟨ab, 1, none⟩ (.slice a k c)) := by
  have hg1 := grown_set u ab 0 (.pointer (some ⟨f, 0, none⟩))
  have hg2 := grown_trans hg1 (grown_set _ ab 1 (.slice a k c))
  have ne : ∀ {b : Nat}, b ≠ ab → some b ≠ some ab := fun hb e => hb (by simpa using e)
  exact ⟨(h.fa.set ha.hab ha.hf 0 _).set ha.hab ha.hf 1 _, h.fbx.grown hg2 (ne ha.nfa), h.line.grown hg2 (ne ha.nla), h.ahead.put _ _ _ _, h.out.grown hg2 (ne ha.nra), h.rowL.put h.ahead _ _ _ _, hr.put h.ahead _ _ _ _⟩
theorem FBox.made (u : World) (f : Nat) (t : TypeId) : FBox (u.alloc (.cells #[.pointer (some ⟨f, 0, none⟩)] t)) u.heap.size f := ⟨t, by show (u.heap.push _)[u.heap.size]? = _; simp⟩
theorem not_row {u : World} {row : Option Nat} (hr : ∀ r, row = some r → ∃ o : Obj, u.heap[r]? = some o ∧ o.isCells = false) {b : Nat} {o : Obj} (h : u.heap[b]? = some o) (ho : o.isCells = true) : some b ≠ row := fun e => by
  obtain ⟨o', h', ho'⟩ := hr b e.symm
  rw [h] at h'
  cases h'
  rw [ho] at ho'
  cases ho'
/-- What through holds abides whatever turns no cells. -/
theorem TS.own {w : World} {f fb lb ab rb : Nat} {p : List B × List B} {aL aA : Option Addr} {kL cL kA cA : Nat} {u v : World} {row : Option Nat} (h : TS w f fb lb ab rb p aL kL cL aA kA cA u) (hg : u.grownBy v row) (hr : ∀ r, row = some r → w.heap.size ≤ r ∧ ∃ o : Obj, u.heap[r]? = some o ∧ o.isCells = false) : TS w f fb lb ab rb p aL kL cL aA kA cA v := by
  have hr2 : ∀ r, row = some r → ∃ o : Obj, u.heap[r]? = some o ∧ o.isCells = false := fun r e => (hr r e).2
  have nb : ∀ {b : Nat} {x a : Option Addr} {k c : Nat}, PBox u b x a k c → some b ≠ row := fun hp => by
    obtain ⟨t, hp⟩ := hp
    exact not_row hr2 hp rfl
  have nr : ∀ {ar : Option Addr} {n cap : Nat} {P : List B}, BR f u ar n cap P → BR f v ar n cap P := fun hb => by
    refine ⟨hb.len, hb.le, hb.nil, fun hn => ?_⟩
    obtain ⟨g, o, ha, hgl, hne, hc⟩ := hb.cells hn
    obtain ⟨ob, hob, hcb⟩ := cells_of_cell (hc 0 hn)
    exact ⟨g, o, ha, Nat.lt_of_lt_of_le hgl hg.size, hne, fun i hi => hg.cell (hc i hi) (not_row hr2 hob hcb)⟩
  obtain ⟨ob, hob, hcb⟩ : ∃ o : Obj, u.heap[f]? = some o ∧ o.isCells = true := by
    rcases h.fa.fld with hf | hf <;> exact cells_of_cell (hf.2 0 (by omega)).1
  have hnf := not_row hr2 hob hcb
  have hfx := h.fbx
  obtain ⟨t, hfx'⟩ := hfx
  refine ⟨⟨h.fa.fld.grown hg hnf, ?_⟩, ⟨t, (hg.block fb (Array.getElem?_eq_some_iff.1 hfx').1 (not_row hr2 hfx' rfl)).trans hfx'⟩, h.line.grown hg (nb h.line), h.ahead.grown hg (nb h.ahead), h.out.grown hg (nb h.out), nr h.rowL, nr h.rowA⟩
  have hu := h.fa.grown
  exact ⟨hg.os.trans hu.os, hg.tape.trans hu.tape, hg.output.trans hu.output, Nat.le_trans hu.size hg.size, fun k hk hne => (hg.block k (Nat.lt_of_lt_of_le hk hu.size) (fun e => by have := (hr k e.symm).1; omega)).trans (hu.block k hk hne)⟩
/-- What a round leaves: whatever is no cells lies as it lay, and so does all that is older than n, but the field. -/
def RK (n f : Nat) (u v : World) : Prop := KeepsOthers u v ∧ Keep n f u v
theorem RK.refl (n f : Nat) (u : World) : RK n f u u := ⟨KeepsOthers.refl _, Keep.refl _ _ _⟩
theorem RK.trans {n f : Nat} {a b c : World} (h : RK n f a b) (k : RK n f b c) : RK n f a c := ⟨h.1.trans k.1, h.2.trans k.2⟩
theorem fat_others {f : Nat} {u v : World} (h : FAt u f v) (hf : ∃ o : Obj, u.heap[f]? = some o ∧ o.isCells = true) : KeepsOthers u v := by
  refine KeepsOthers.of_grownBy h.grown (fun j o e hj => ?_)
  cases e
  obtain ⟨ob, hob, hcb⟩ := hf
  rw [hj] at hob
  cases hob
  exact hcb
theorem RK.fat {n f : Nat} {u v : World} (hf : Fld u f) (h : FAt u f v) : RK n f u v := ⟨fat_others h hf.isCells, (Keep.refl _ _ _).fat h⟩
theorem RK.set2 {n f b : Nat} (u : World) (hn : n ≤ b) (x y : Value) : RK n f u ((u.setCell ⟨b, 0, none⟩ x).setCell ⟨b, 1, none⟩ y) :=
  ⟨(KeepsOthers.setCell _ _ _).trans (KeepsOthers.setCell _ _ _), ((Keep.refl _ _ _).set hn _ _).set hn _ _⟩
theorem PR.fat {w u : World} {f : Nat} {a : Option Addr} {n cap : Nat} {ps : List (Int × Int)} (h : PR w a n cap ps) (k : FAt w f u) (hne : 0 < n → ∀ g o, a = some ⟨g, o, none⟩ → g ≠ f) : PR u a n cap ps := by
  refine ⟨h.len, h.le, h.nil, fun hn => ?_⟩
  obtain ⟨g, o, ha, hg, hc⟩ := h.cells hn
  exact ⟨g, o, ha, Nat.lt_of_lt_of_le hg k.grown.size, fun i hi => ⟨k.cell (hc i hi).1 (hne hn g o ha), k.cell (hc i hi).2 (hne hn g o ha)⟩⟩
theorem pplus_agg (f : Nat) (a b : Option Addr) (n m cap cbp : Nat) (p q : List B) (w : World) (h : BR f w a n cap p) (k : BR f w b m cbp q) (hF : Fld w f) (hn : n ≤ 524288) (hm : m ≤ 524288) :
    Calls Tryz.prog 77 #[.agg #[.pointer (some ⟨f, 0, none⟩), .slice a n cap], .agg #[.pointer (some ⟨f, 0, none⟩), .slice b m cbp]] w fun e w' => ∃ a' k' c', e = .returned (.agg #[.pointer (some ⟨f, 0, none⟩), .slice a' k' c']) ∧ BR f w' a' k' c' (trim (addP p q)) ∧ FAt w f w' := plus_any f a b n m cap cbp p q w h k hF hn hm
theorem trimmed_agg (f : Nat) (a : Option Addr) (n cap : Nat) (p : List B) (w : World) (h : BR f w a n cap p) (hn : n ≤ 1048576) :
    Calls Tryz.prog 55 #[.pointer (some ⟨f, 0, none⟩), .slice a n cap] w fun e w' => ∃ k, e = .returned (.agg #[.pointer (some ⟨f, 0, none⟩), .slice a k cap]) ∧ BR f w' a k cap (trim p) ∧ Below w.heap.size w w' := trimmed_any f a n cap p w h hn
theorem at_agg (f : Nat) (a : Option Addr) (n cap : Nat) (p : List B) (x : B) (w : World) (h : BR f w a n cap p) (hF : Fld w f) (hn : n ≤ 1048576) :
    Calls Tryz.prog 62 #[.agg #[.pointer (some ⟨f, 0, none⟩), .slice a n cap], .int .u8 (bi x)] w fun e w' => e = .returned (.int .u8 (bi (ev p x))) ∧ FAt w f w' := at_any f a n cap p x w h hF hn
end Go.Proofs.YtdnbkjiijpeiiaaGreat
/- What the program's through answers. -/
namespace Go.Proofs.YtdnbkjiijpeiiaaGreat
open Go.RowKit Go.PlainAid G MGF IRow Go.Shelf
set_option linter.unusedVariables false
theorem bytePolyOf_agg (f : Nat) (a : Option Addr) (n cap : Nat) (p : List B) (w : World) (h : IR w a n cap (pv p)) (hf : f < w.heap.size) (hn : n ≤ 1048576) :
    Calls Tryz.prog 76 #[.pointer (some ⟨f, 0, none⟩), .slice a n cap] w fun e w' => ∃ a' k c', e = .returned (.agg #[.pointer (some ⟨f, 0, none⟩), .slice a' k c']) ∧ BR f w' a' k c' (trim p) ∧ Below w.heap.size w w' := bytePolyOf_any f a n cap p w h hf hn
theorem lit64_one (w : World) (e : TypeId) : IR (w.alloc (.cells #[.int .i64 1] e)) (some ⟨w.heap.size, 0, none⟩) 1 1 (pv [1]) := IR.own (lit_one w 1 e)
theorem BR.ends {f : Nat} {u v : World} {row : Option Nat} {ar : Option Addr} {n cap : Nat} {P : List B} (hb : BR f u ar n cap P) (hg : u.grownBy v row) (hr : ∀ r, row = some r → ∃ o : Obj, u.heap[r]? = some o ∧ o.isCells = false) : BR f v ar n cap P := by
  refine ⟨hb.len, hb.le, hb.nil, fun hn => ?_⟩
  obtain ⟨g, o, ha, hgl, hne, hc⟩ := hb.cells hn
  obtain ⟨ob, hob, hcb⟩ := cells_of_cell (hc 0 hn)
  exact ⟨g, o, ha, Nat.lt_of_lt_of_le hgl hg.size, hne, fun i hi => hg.cell (hc i hi) (not_row hr hob hcb)⟩
theorem PBox.ends {u v : World} {b : Nat} {x a : Option Addr} {k c : Nat} (h : PBox u b x a k c) {row : Option Nat} (hg : u.grownBy v row) (hr : ∀ r, row = some r → ∃ o : Obj, u.heap[r]? = some o ∧ o.isCells = false) : PBox v b x a k c := by
  have hp := h
  obtain ⟨t, hp⟩ := hp
  exact h.grown hg (not_row hr hp rfl)
theorem FAt.ends {w u v : World} {f : Nat} (h : FAt w f u) {row : Option Nat} (hg : u.grownBy v row) (hr : ∀ r, row = some r → w.heap.size ≤ r ∧ ∃ o : Obj, u.heap[r]? = some o ∧ o.isCells = false) : FAt w f v := by
  obtain ⟨ob, hob, hcb⟩ : ∃ o : Obj, u.heap[f]? = some o ∧ o.isCells = true := by
    rcases h.fld with hf | hf <;> exact cells_of_cell (hf.2 0 (by omega)).1
  have hnf := not_row (fun r e => (hr r e).2) hob hcb
  have hu := h.grown
  exact ⟨h.fld.grown hg hnf, ⟨hg.os.trans hu.os, hg.tape.trans hu.tape, hg.output.trans hu.output, Nat.le_trans hu.size hg.size, fun k hk hne => (hg.block k (Nat.lt_of_lt_of_le hk hu.size) (fun e => by have := (hr k e.symm).1; omega)).trans (hu.block k hk hne)⟩⟩
attribute [local go_sem] Oper.semAt_some
set_option maxRecDepth 100000 in
set_option maxHeartbeats 4000000 in
theorem through_any (f gf : Nat) (lb : Array Value) (qs : List (B × B)) (w : World) (hF : Fld w f) (hit : ∀ u, FAt w f u → Points w.heap.size gf lb f qs u) (eg : ∀ args (w : World), (callFunc gf args).run Tryz.prog w = .ok (.enter gf args) w) (hn : qs.length ≤ 20) :
    Calls Tryz.prog 58 #[.pointer (some ⟨f, 0, none⟩), .func (.func gf) #[] lb] w fun e w' => ∃ a' k' c', e = .returned (.agg #[.pointer (some ⟨f, 0, none⟩), .slice a' k' c']) ∧ BR f w' a' k' c' (nw qs).1 ∧ FAt w f w' := by
  have hlt := hF.lt
  obtain ⟨w0, hw0⟩ : ∃ u, u = (w.alloc (Obj.cells #[Value.pointer (some ⟨f, 0, none⟩)] 67)).alloc (Obj.cells #[Value.pointer none, Value.slice none 0 0] 76) := ⟨_, rfl⟩
  obtain ⟨wf, hwf⟩ : ∃ u, u = w.alloc (Obj.cells #[Value.pointer (some ⟨f, 0, none⟩)] 67) := ⟨_, rfl⟩
  have hsf : wf.heap.size = w.heap.size + 1 := by rw [hwf]; exact World.size_alloc _ _
  have hbf : Below w.heap.size w wf := by rw [hwf]; exact (Below.refl _ _).alloc (Nat.le_refl _) _
  have hfx : FBox wf w.heap.size f := by rw [hwf]; exact FBox.made _ _ _
  have hb0 : Below wf.heap.size wf w0 := by rw [hw0, ← hwf]; exact (Below.refl _ _).alloc (Nat.le_refl _) _
  have hpr : PBox w0 (w.heap.size + 1) none none 0 0 := by rw [hw0, ← hwf, ← hsf]; exact PBox.made _ _ _ _ _ _
  have hfx0 := hfx.grown (fg_below (row := none) hb0) (by simp)
  have hfa0 := ((FAt.start hF).below hbf).below hb0
  have HW0 := Lib.hid hw0
  have HPR := Lib.hid hpr
  have HFX := Lib.hid hfx0
  have HFA := Lib.hid hfa0
  have HIN := Lib.hid hit
  have HEG := Lib.hid eg
  clear hwf hsf hbf hfx hb0 hpr hfx0 hfa0 hit eg hF
  refine (callsIn_wide (n := 3)).1 ?_
  refine callsIn_of_wp_marks Tryz.func58 rfl trivial ?_ rfl
  simp only [Tryz.ntmps58, List.size_toArray, List.length_cons, List.length_nil, Nat.reduceAdd, Nat.reduceSub, Array.replicate_succ, Array.replicate_zero, List.push_toArray, List.append_toArray, List.nil_append, List.cons_append]
  clear hw0
  gi_wp2_with fail
  rw [← HW0.out]
  refine ⟨trivial, (callsIn_wide.2 (bytePolyOf_agg f none 0 0 [] w0 (IR.none w0) HFA.out.fld.lt (by decide))).mono ?_⟩
  rintro e w1 ⟨a1, k1, c1, rfl, h1, hb1⟩
  have HR1 := Lib.hid h1
  have HFA1 := Lib.hid (HFA.out.below hb1)
  have HFX1 := Lib.hid (HFX.out.grown (fg_below (row := none) hb1) (by simp))
  have HPR1 := Lib.hid (HPR.out.below hb1)
  obtain ⟨wl, hwl⟩ : ∃ u, u = w1.alloc (Obj.cells #[Value.pointer (some ⟨f, 0, none⟩), Value.slice a1 k1 c1] 76) := ⟨_, rfl⟩
  have hbl : Below w1.heap.size w1 wl := by rw [hwl]; exact (Below.refl _ _).alloc (Nat.le_refl _) _
  have hsl : wl.heap.size = w1.heap.size + 1 := by rw [hwl]; exact World.size_alloc _ _
  have hpl : PBox wl w1.heap.size (some ⟨f, 0, none⟩) a1 k1 c1 := by rw [hwl]; exact PBox.made _ _ _ _ _ _
  have hcf := (HFX1.out.grown (fg_below (row := none) hbl) (by simp)).cell
  have hcf' : (w1.alloc (Obj.cells #[Value.pointer (some ⟨f, 0, none⟩), Value.slice a1 k1 c1] 76)).cell? ⟨w.heap.size, 0, none⟩ = some (.pointer (some ⟨f, 0, none⟩)) := by rw [← hwl]; exact hcf
  have hlit : Below wl.heap.size wl (wl.alloc (Obj.cells #[Value.int .i64 1] 2)) := (Below.refl _ _).alloc (Nat.le_refl _) _
  have HWL := Lib.hid hwl
  have HPL := Lib.hid (hpl.below hlit)
  have HFAL := Lib.hid ((HFA1.out.below hbl).below hlit)
  have HRL := Lib.hid ((HR1.out.below hbl).below hlit)
  have HPRL := Lib.hid ((HPR1.out.below hbl).below hlit)
  have HFXL := Lib.hid ((HFX1.out.grown (fg_below (row := none) hbl) (by simp)).grown (fg_below (row := none) hlit) (by simp))
  have HLI := Lib.hid (lit64_one wl 2)
  have HSL := Lib.hid hsl
  clear h1 hb1 hwl hbl hsl hpl hcf hlit
  gi_wp2_with fail
  rw [← HWL.out, ← HSL.out]
  refine ⟨trivial, (callsIn_wide.2 (bytePolyOf_agg f (some ⟨wl.heap.size, 0, none⟩) 1 1 [1] _ HLI.out HFAL.out.fld.lt (by decide))).mono ?_⟩
  rintro e w2 ⟨a2, k2, c2, rfl, h2, hb2⟩
  rw [trim_one] at h2
  obtain ⟨wA, hwA⟩ : ∃ u, u = w2.alloc (Obj.cells #[Value.pointer (some ⟨f, 0, none⟩), Value.slice a2 k2 c2] 76) := ⟨_, rfl⟩
  have hbA : Below w2.heap.size w2 wA := by rw [hwA]; exact (Below.refl _ _).alloc (Nat.le_refl _) _
  have hTS : TS w f w.heap.size w1.heap.size w2.heap.size (w.heap.size + 1) (nw []) a1 k1 c1 a2 k2 c2 wA := by
    refine ⟨(HFAL.out.below hb2).below hbA, (HFXL.out.grown (fg_below (row := none) hb2) (by simp)).grown (fg_below (row := none) hbA) (by simp), (HPL.out.below hb2).below hbA, ?_, (HPRL.out.below hb2).below hbA, (HRL.out.below hb2).below hbA, h2.below hbA⟩
    rw [hwA]
    exact PBox.made _ _ _ _ _ _
  have hl1 := HPR1.out.lt
  have hl2 := (HPL.out.below hb2).lt
  have hap : Apart w f w.heap.size w1.heap.size w2.heap.size (w.heap.size + 1) := ⟨hlt, Nat.le_refl _, by omega, by omega, by omega, by omega, by omega, by omega, by omega, by omega⟩
  have hsA : w2.heap.size < wA.heap.size := by rw [hwA, World.size_alloc]; omega
  have HTS := Lib.hid hTS
  have HAP := Lib.hid hap
  have HWA := Lib.hid hwA
  have HSA : Hid (w.heap.size ≤ wA.heap.size) := Lib.hid (by omega)
  clear h2 hb2 hbA hTS hap hwA hsA hl1 hl2 HR1 HFA1 HFX1 HPR1 HPL HFAL HRL HPRL HFXL HLI HWL HPR HFX HFA
  gi_wp2_with fail
  rw [← HWA.out]
  have hseq := HIN.out wA HTS.out.fa
  have hI : OwnFrom wA.heap.size (fun (pre : List (B × B)) W => ∃ aL kL cL aA kA cA, TS w f w.heap.size w1.heap.size w2.heap.size (w.heap.size + 1) (nw pre) aL kL cL aA kA cA W) := by
    rintro s X Y row ⟨aL, kL, cL, aA, kA, cA, h⟩ hg hr
    exact ⟨aL, kL, cL, aA, kA, cA, h.own hg (fun r e => ⟨by have := (hr r e).1; have := HSA.out; omega, (hr r e).2⟩)⟩
  refine Round.wpIn_hands (n := 3) rfl (by decide) (gf := gf) (lb := lb) rfl trivial HEG.out hseq (fun _ => rfl) (fun h => fat_others h.2 h.1.isCells) Kp.trans (Kp.alloc _ _) (Kp.put HSA.out)
    (fun (pre : List (B × B)) W => ∃ aL kL cL aA kA cA, TS w f w.heap.size w1.heap.size w2.heap.size (w.heap.size + 1) (nw pre) aL kL cL aA kA cA W)
    hI (fun s A C => by rintro ⟨aL, kL, cL, aA, kA, cA, h⟩ k; exact ⟨aL, kL, cL, aA, kA, cA, h.grown HAP.out k.2⟩) ⟨_, _, _, _, _, _, HTS.out⟩ ?a1 ?assign ?body ?done
  case assign =>
    intro l x W K hK
    gi_wp2
    exact hK
  case body =>
    rintro l pre x W ⟨aL, kL, cL, aA, kA, cA, hT⟩ hlen
    have hmx : Tryz.prog.follows .mixedOrders = true := by kernel_rfl
    obtain ⟨X, Y⟩ := x
    have hlenL := (nw_length pre).1
    have hlenA := (nw_length pre).2
    have hkL : kL ≤ 30 := by have := hT.rowL.len; omega
    have hkA : kA ≤ 30 := by have := hT.rowA.len; omega
    have HKL : Hid (kL ≤ 1048576 ∧ kL ≤ 524288) := Lib.hid (by omega)
    have HKA : Hid (kA ≤ 1048576 ∧ kA ≤ 524288) := Lib.hid (by omega)
    have HNW := Lib.hid (nw_snoc pre (X, Y))
    have HLL : Hid (kL ≤ 30 ∧ kA ≤ 30) := Lib.hid ⟨hkL, hkA⟩
    clear hkL hkA hlenL hlenA
    generalize nw pre = p at *
    have hRK := RK.refl w.heap.size f W
    obtain ⟨S, hSd⟩ : ∃ S : World → Prop, S = fun u => TS w f w.heap.size w1.heap.size w2.heap.size (w.heap.size + 1) p aL kL cL aA kA cA u ∧ RK w.heap.size f W u := ⟨_, rfl⟩
    have HSf : Hid (∀ u, S u → TS w f w.heap.size w1.heap.size w2.heap.size (w.heap.size + 1) p aL kL cL aA kA cA u) := Lib.hid (fun u h => by rw [hSd] at h; exact h.1)
    have HSr : Hid (∀ u, S u → RK w.heap.size f W u) := Lib.hid (fun u h => by rw [hSd] at h; exact h.2)
    have HSs : Hid (∀ u v, S u → FAt u f v → S v) := Lib.hid (fun u v h k => by rw [hSd] at h ⊢; exact ⟨h.1.grown HAP.out k, h.2.trans (RK.fat h.1.fa.fld k)⟩)
    have HSb : Hid (∀ u v, S u → Below u.heap.size u v → S v) := Lib.hid (fun u v h k => HSs.out u v h ((FAt.start (HSf.out u h).fa.fld).below k))
    have HSd : Hid (∀ u, S u → S u.drew) := Lib.hid (fun u h => HSb.out u _ h (Below.refl _ _).drew)
    have hS0 : S W := by rw [hSd]; exact ⟨hT, hRK⟩
    clear hSd hT hRK
    gi_wp2_with fail
    refine Till.regionIn (t := 6) hmx S (fun a w => _) ?_ (fun _ _ h => h)
    have hS : S _ := HSd.out _ hS0
    refine Till.take (i := 0) (v := .pointer (some ⟨f, 0, none⟩)) rfl rfl rfl rfl (by kernel_rfl) (by kernel_rfl) (by kernel_rfl) (by kernel_rfl) hS (fun u hu => ?_) ?_
    · have hq := (HSf.out _ hu).fbx.cell; go_simp
    simp only [Act.put, List.getElem_toArray, List.getElem_cons_zero, List.setIfInBounds_toArray, List.set_cons_zero, List.set_cons_succ]
    refine Till.take (i := 1) (v := .agg #[.pointer (some ⟨f, 0, none⟩), .slice aL kL cL]) rfl rfl rfl rfl (by kernel_rfl) (by kernel_rfl) (by kernel_rfl) (by kernel_rfl) hS (fun u hu => ?_) ?_
    · obtain ⟨hq0, hq1, _, _⟩ := (HSf.out _ hu).line.cells; go_simp
    simp only [Act.put, List.getElem_toArray, List.getElem_cons_zero, List.getElem_cons_succ, List.setIfInBounds_toArray, List.set_cons_zero, List.set_cons_succ]
    refine Till.take (i := 2) (v := .int .u8 (bi X)) rfl rfl rfl rfl (by kernel_rfl) (by kernel_rfl) (by kernel_rfl) (by kernel_rfl) hS (fun u hu => ?_) ?_
    · go_simp
    simp only [Act.put, List.getElem_toArray, List.getElem_cons_zero, List.getElem_cons_succ, List.setIfInBounds_toArray, List.set_cons_zero, List.set_cons_succ]
    refine Till.take (i := 4) (v := .int .u8 (bi Y)) rfl rfl rfl rfl (by kernel_rfl) (by kernel_rfl) (by kernel_rfl) (by kernel_rfl) hS (fun u hu => ?_) ?_
    · go_simp
    simp only [Act.put, List.getElem_toArray, List.getElem_cons_zero, List.getElem_cons_succ, List.setIfInBounds_toArray, List.set_cons_zero, List.set_cons_succ]
    refine Till.call (i := 3) (f := 62) (args := #[.agg #[.pointer (some ⟨f, 0, none⟩), .slice aL kL cL], .int .u8 (bi X)]) (by kernel_rfl) rfl rfl rfl (by go_simp) ?_
    with_reducible refine Calls.mono (at_agg f aL kL cL p.1 X _ (HSf.out _ hS).rowL (HSf.out _ hS).fa.fld HKL.out.1) ?_
    rintro e u1 ⟨rfl, hf1⟩
    have hS := HSs.out _ _ hS hf1
    refine ⟨_, rfl, fun _ => hS, ?_⟩
    simp only [Act.put, List.getElem_toArray, List.getElem_cons_zero, List.getElem_cons_succ, List.setIfInBounds_toArray, List.set_cons_zero, List.set_cons_succ]
    refine Till.call (i := 5) (f := 31) (args := #[.pointer (some ⟨f, 0, none⟩), .int .u8 (bi (ev p.1 X)), .int .u8 (bi Y)]) (by kernel_rfl) rfl rfl rfl (by go_simp) ?_
    with_reducible refine Calls.mono (ringPlus_any f (ev p.1 X) Y _) ?_
    rintro e u1 ⟨rfl, rfl⟩
    refine ⟨_, rfl, fun _ => hS, ?_⟩
    simp only [Act.put, List.getElem_toArray, List.getElem_cons_zero, List.getElem_cons_succ, List.setIfInBounds_toArray, List.set_cons_zero, List.set_cons_succ]
    refine Till.value (i := 6) (v := .int .u8 (bi (ev p.1 X ^^^ Y))) (by kernel_rfl) rfl rfl rfl (by go_simp) (fun _ => hS) ?_
    simp only [Act.put, List.getElem_toArray, List.getElem_cons_zero, List.getElem_cons_succ, List.setIfInBounds_toArray, List.set_cons_zero, List.set_cons_succ]
    refine Till.done (by kernel_rfl) ?_ _
    replace hS0 := hS; clear hS
    gi_wp2_with fail
    refine Till.regionIn (t := 8) hmx S (fun a w => _) ?_ (fun _ _ h => h)
    have hS : S _ := HSd.out _ hS0
    refine Till.take (i := 0) (v := .pointer (some ⟨f, 0, none⟩)) rfl rfl rfl rfl (by kernel_rfl) (by kernel_rfl) (by kernel_rfl) (by kernel_rfl) hS (fun u hu => ?_) ?_
    · have hq := (HSf.out _ hu).fbx.cell; go_simp
    simp only [Act.put, List.getElem_toArray, List.getElem_cons_zero, List.setIfInBounds_toArray, List.set_cons_zero, List.set_cons_succ]
    refine Till.take (i := 1) (v := .int .u8 (bi (ev p.1 X ^^^ Y))) rfl rfl rfl rfl (by kernel_rfl) (by kernel_rfl) (by kernel_rfl) (by kernel_rfl) hS (fun u hu => ?_) ?_
    · go_simp
    simp only [Act.put, List.getElem_toArray, List.getElem_cons_zero, List.getElem_cons_succ, List.setIfInBounds_toArray, List.set_cons_zero, List.set_cons_succ]
    refine Till.take (i := 2) (v := .pointer (some ⟨f, 0, none⟩)) rfl rfl rfl rfl (by kernel_rfl) (by kernel_rfl) (by kernel_rfl) (by kernel_rfl) hS (fun u hu => ?_) ?_
    · have hq := (HSf.out _ hu).fbx.cell; go_simp
    simp only [Act.put, List.getElem_toArray, List.getElem_cons_zero, List.getElem_cons_succ, List.setIfInBounds_toArray, List.set_cons_zero, List.set_cons_succ]
    refine Till.take (i := 3) (v := .agg #[.pointer (some ⟨f, 0, none⟩), .slice aA kA cA]) rfl rfl rfl rfl (by kernel_rfl) (by kernel_rfl) (by kernel_rfl) (by kernel_rfl) hS (fun u hu => ?_) ?_
    · obtain ⟨hq0, hq1, _, _⟩ := (HSf.out _ hu).ahead.cells; go_simp
    simp only [Act.put, List.getElem_toArray, List.getElem_cons_zero, List.getElem_cons_succ, List.setIfInBounds_toArray, List.set_cons_zero, List.set_cons_succ]
    refine Till.take (i := 4) (v := .int .u8 (bi X)) rfl rfl rfl rfl (by kernel_rfl) (by kernel_rfl) (by kernel_rfl) (by kernel_rfl) hS (fun u hu => ?_) ?_
    · go_simp
    simp only [Act.put, List.getElem_toArray, List.getElem_cons_zero, List.getElem_cons_succ, List.setIfInBounds_toArray, List.set_cons_zero, List.set_cons_succ]
    refine Till.call (i := 5) (f := 62) (args := #[.agg #[.pointer (some ⟨f, 0, none⟩), .slice aA kA cA], .int .u8 (bi X)]) (by kernel_rfl) rfl rfl rfl (by go_simp) ?_
    with_reducible refine Calls.mono (at_agg f aA kA cA p.2 X _ (HSf.out _ hS).rowA (HSf.out _ hS).fa.fld HKA.out.1) ?_
    rintro e u1 ⟨rfl, hf1⟩
    have hS := HSs.out _ _ hS hf1
    refine ⟨_, rfl, fun _ => hS, ?_⟩
    simp only [Act.put, List.getElem_toArray, List.getElem_cons_zero, List.getElem_cons_succ, List.setIfInBounds_toArray, List.set_cons_zero, List.set_cons_succ]
    refine Till.call (i := 6) (f := 57) (args := #[.pointer (some ⟨f, 0, none⟩), .int .u8 (bi (ev p.2 X))]) (by kernel_rfl) rfl rfl rfl (by go_simp) ?_
    with_reducible refine Calls.mono (inverse0_any f (ev p.2 X) _ (HSf.out _ hS).fa.fld) ?_
    rintro e u1 ⟨rfl, hg1, hg2⟩
    have hS := HSs.out _ _ hS (FAt.of hg1 hg2)
    refine ⟨_, rfl, fun _ => hS, ?_⟩
    simp only [Act.put, List.getElem_toArray, List.getElem_cons_zero, List.getElem_cons_succ, List.setIfInBounds_toArray, List.set_cons_zero, List.set_cons_succ]
    refine Till.call (i := 7) (f := 61) (args := #[.pointer (some ⟨f, 0, none⟩), .int .u8 (bi (ev p.1 X ^^^ Y)), .int .u8 (bi (inv0 (ev p.2 X)))]) (by kernel_rfl) rfl rfl rfl (by go_simp) ?_
    with_reducible refine Calls.mono (times_any f (ev p.1 X ^^^ Y) (inv0 (ev p.2 X)) _ (HSf.out _ hS).fa.fld) ?_
    rintro e u1 ⟨rfl, hg1, hg2⟩
    have hS := HSs.out _ _ hS (FAt.of hg1 hg2)
    refine ⟨_, rfl, fun _ => hS, ?_⟩
    simp only [Act.put, List.getElem_toArray, List.getElem_cons_zero, List.getElem_cons_succ, List.setIfInBounds_toArray, List.set_cons_zero, List.set_cons_succ]
    refine Till.value (i := 8) (v := .int .u8 (bi (mul (ev p.1 X ^^^ Y) (inv0 (ev p.2 X))))) (by kernel_rfl) rfl rfl rfl (by go_simp) (fun _ => hS) ?_
    simp only [Act.put, List.getElem_toArray, List.getElem_cons_zero, List.getElem_cons_succ, List.setIfInBounds_toArray, List.set_cons_zero, List.set_cons_succ]
    refine Till.done (by kernel_rfl) ?_ _
    replace hS0 := hS; clear hS
    obtain ⟨d, hd⟩ : ∃ d, d = mul (ev p.1 X ^^^ Y) (inv0 (ev p.2 X)) := ⟨_, rfl⟩
    rw [← hd]
    have HD := Lib.hid hd; clear hd
    gi_wp2_with fail
    have HONE : Hid (1 ≤ 1048576) := Lib.hid (by decide)
    have HTWO : Hid (2 ≤ 1048576) := Lib.hid (by decide)
    have HNE : Hid ((1 : B) ≠ 0) := Lib.hid (by decide)
    have HK3 : Hid (∀ (u : World) (a : Option Addr) (k c : Nat), BR f u a k c (trim [d]) → k ≤ 524288) := Lib.hid (fun u a k c h => by have h1 := h.len; have h2 := length_trim [d]; simp only [List.length_cons, List.length_nil] at h2; omega)
    have HK4 : Hid (∀ (u : World) (a : Option Addr) (k c kk : Nat), p.2.length = kk → BR f u a k c (trim (mulP p.2 (trim [d]))) → kk ≤ 30 → k ≤ 524288) := Lib.hid (fun u a k c kk hl h hk => by have h1 := h.len; have h2 := length_trim [d]; have h3 := length_trim_mul p.2 (trim [d]); simp only [List.length_cons, List.length_nil] at h2; omega)
    have HK5 : Hid (∀ (u : World) (a : Option Addr) (k c : Nat), BR f u a k c [X, 1] → k ≤ 524288) := Lib.hid (fun u a k c h => by have h1 := h.len; simp only [List.length_cons, List.length_nil] at h1; omega)
    refine Till.regionIn (t := 8) hmx S (fun a w => _) ?_ (fun _ _ h => h)
    have hS : S _ := HSd.out _ hS0
    refine Till.take (i := 0) (v := .agg #[.pointer (some ⟨f, 0, none⟩), .slice aL kL cL]) rfl rfl rfl rfl (by kernel_rfl) (by kernel_rfl) (by kernel_rfl) (by kernel_rfl) hS (fun u hu => ?_) ?_
    · obtain ⟨hq0, hq1, _, _⟩ := (HSf.out _ hu).line.cells; go_simp
    simp only [Act.put, List.getElem_toArray, List.getElem_cons_zero, List.setIfInBounds_toArray, List.set_cons_zero, List.set_cons_succ]
    refine Till.take (i := 1) (v := .agg #[.pointer (some ⟨f, 0, none⟩), .slice aA kA cA]) rfl rfl rfl rfl (by kernel_rfl) (by kernel_rfl) (by kernel_rfl) (by kernel_rfl) hS (fun u hu => ?_) ?_
    · obtain ⟨hq0, hq1, _, _⟩ := (HSf.out _ hu).ahead.cells; go_simp
    simp only [Act.put, List.getElem_toArray, List.getElem_cons_zero, List.getElem_cons_succ, List.setIfInBounds_toArray, List.set_cons_zero, List.set_cons_succ]
    refine Till.take (i := 2) (v := .pointer (some ⟨f, 0, none⟩)) rfl rfl rfl rfl (by kernel_rfl) (by kernel_rfl) (by kernel_rfl) (by kernel_rfl) hS (fun u hu => ?_) ?_
    · have hq := (HSf.out _ hu).fbx.cell; go_simp
    simp only [Act.put, List.getElem_toArray, List.getElem_cons_zero, List.getElem_cons_succ, List.setIfInBounds_toArray, List.set_cons_zero, List.set_cons_succ]
    refine Till.take (i := 3) (v := .int .u8 (bi d)) rfl rfl rfl rfl (by kernel_rfl) (by kernel_rfl) (by kernel_rfl) (by kernel_rfl) hS (fun u hu => ?_) ?_
    · go_simp
    simp only [Act.put, List.getElem_toArray, List.getElem_cons_zero, List.getElem_cons_succ, List.setIfInBounds_toArray, List.set_cons_zero, List.set_cons_succ]
    refine Till.lit (i := 4) (m := 1) (ob := .cells #[.int .u8 (bi d)] 5) (by kernel_rfl) rfl rfl rfl (by go_simp) (fun b v0 hbb hbu => ?_)
    have hSk := hS
    have hS := HSb.out _ v0 hSk (by rw [hbu]; exact (Below.refl _ _).alloc (Nat.le_refl _) _)
    have hB := (show BR f v0 (some ⟨b, 0, none⟩) 1 1 [d] by rw [hbu, hbb]; exact lit8_one f _ d _ (HSf.out _ hSk).fa.fld.lt)
    clear hbb hbu hSk
    refine ⟨fun _ => hS, ?_⟩
    simp only [Act.put, List.getElem_toArray, List.getElem_cons_zero, List.getElem_cons_succ, List.setIfInBounds_toArray, List.set_cons_zero, List.set_cons_succ]
    refine Till.call (i := 5) (f := 55) (args := #[.pointer (some ⟨f, 0, none⟩), .slice (some ⟨b, 0, none⟩) 1 1]) (by kernel_rfl) rfl rfl rfl (by go_simp) ?_
    with_reducible refine Calls.mono (trimmed_agg f (some ⟨b, 0, none⟩) 1 1 [d] _ hB HONE.out) ?_
    rintro e v1 ⟨k3, rfl, h3, hb3⟩
    have hS := HSb.out _ _ hS hb3
    refine ⟨_, rfl, fun _ => hS, ?_⟩
    simp only [Act.put, List.getElem_toArray, List.getElem_cons_zero, List.getElem_cons_succ, List.setIfInBounds_toArray, List.set_cons_zero, List.set_cons_succ]
    refine Till.call (i := 6) (f := 56) (args := #[.agg #[.pointer (some ⟨f, 0, none⟩), .slice aA kA cA], .agg #[.pointer (some ⟨f, 0, none⟩), .slice (some ⟨b, 0, none⟩) k3 1]]) (by kernel_rfl) rfl rfl rfl (by go_simp) ?_
    with_reducible refine Calls.mono (ptimes_agg f aA _ kA k3 cA 1 p.2 (trim [d]) _ (HSf.out _ hS).rowA h3 (HSf.out _ hS).fa.fld HKA.out.2 (HK3.out _ _ _ _ h3)) ?_
    rintro e v2 ⟨a4, k4, c4, rfl, h4, hf4⟩
    have hS := HSs.out _ _ hS hf4
    refine ⟨_, rfl, fun _ => hS, ?_⟩
    simp only [Act.put, List.getElem_toArray, List.getElem_cons_zero, List.getElem_cons_succ, List.setIfInBounds_toArray, List.set_cons_zero, List.set_cons_succ]
    refine Till.call (i := 7) (f := 77) (args := #[.agg #[.pointer (some ⟨f, 0, none⟩), .slice aL kL cL], .agg #[.pointer (some ⟨f, 0, none⟩), .slice a4 k4 c4]]) (by kernel_rfl) rfl rfl rfl (by go_simp) ?_
    with_reducible refine Calls.mono (pplus_agg f aL a4 kL k4 cL c4 p.1 _ _ (HSf.out _ hS).rowL h4 (HSf.out _ hS).fa.fld HKL.out.2 (HK4.out _ _ _ _ _ (HSf.out _ hS).rowA.len h4 HLL.out.2)) ?_
    rintro e v3 ⟨a5, k5, c5, rfl, h5, hf5⟩
    have hS := HSs.out _ _ hS hf5
    refine ⟨_, rfl, fun _ => hS, ?_⟩
    simp only [Act.put, List.getElem_toArray, List.getElem_cons_zero, List.getElem_cons_succ, List.setIfInBounds_toArray, List.set_cons_zero, List.set_cons_succ]
    obtain ⟨hq0, hq1, hz0, hz1⟩ := (HSf.out _ hS).line.cells
    refine Till.skip (i := 8) (w' := (World.setCell v3 ⟨w1.heap.size, 0, none⟩ (.pointer (some ⟨f, 0, none⟩))).setCell ⟨w1.heap.size, 1, none⟩ (.slice a5 k5 c5)) (by kernel_rfl) rfl rfl rfl (by go_simp) (fun h => absurd rfl h) ?_
    clear hq0 hq1 hz0 hz1
    simp only [Act.put, List.getElem_toArray, List.getElem_cons_zero, List.getElem_cons_succ]
    have hT := (HSf.out _ hS).putL HAP.out h5
    have hRK := (HSr.out _ hS).trans (RK.set2 v3 (b := w1.heap.size) HAP.out.hlb (.pointer (some ⟨f, 0, none⟩)) (.slice a5 k5 c5))
    refine Till.done (by kernel_rfl) ?_ _
    generalize ((World.setCell v3 ⟨w1.heap.size, 0, none⟩ (.pointer (some ⟨f, 0, none⟩))).setCell ⟨w1.heap.size, 1, none⟩ (.slice a5 k5 c5)) = v4 at *
    obtain ⟨P, hP⟩ : ∃ P, P = trim (addP p.1 (trim (mulP p.2 (trim [d])))) := ⟨_, rfl⟩
    rw [← hP] at hT
    have HP := Lib.hid hP
    clear hP h3 hb3 h4 hf4 h5 hf5 hS hB HSf HSr HSs HSb HSd HK3 HK4
    obtain ⟨S, hSd⟩ : ∃ S : World → Prop, S = fun u => TS w f w.heap.size w1.heap.size w2.heap.size (w.heap.size + 1) (P, p.2) a5 k5 c5 aA kA cA u ∧ RK w.heap.size f W u := ⟨_, rfl⟩
    have HSf : Hid (∀ u, S u → TS w f w.heap.size w1.heap.size w2.heap.size (w.heap.size + 1) (P, p.2) a5 k5 c5 aA kA cA u) := Lib.hid (fun u h => by rw [hSd] at h; exact h.1)
    have HSr : Hid (∀ u, S u → RK w.heap.size f W u) := Lib.hid (fun u h => by rw [hSd] at h; exact h.2)
    have HSs : Hid (∀ u v, S u → FAt u f v → S v) := Lib.hid (fun u v h k => by rw [hSd] at h ⊢; exact ⟨h.1.grown HAP.out k, h.2.trans (RK.fat h.1.fa.fld k)⟩)
    have HSb : Hid (∀ u v, S u → Below u.heap.size u v → S v) := Lib.hid (fun u v h k => HSs.out u v h ((FAt.start (HSf.out u h).fa.fld).below k))
    have HSd : Hid (∀ u, S u → S u.drew) := Lib.hid (fun u h => HSb.out u _ h (Below.refl _ _).drew)
    have hS0 : S v4 := by rw [hSd]; exact ⟨hT, hRK⟩
    clear hSd hT hRK
    gi_wp2_with fail
    refine Till.regionIn (t := 6) hmx S (fun a w => _) ?_ (fun _ _ h => h)
    have hS : S _ := HSd.out _ hS0
    refine Till.take (i := 0) (v := .agg #[.pointer (some ⟨f, 0, none⟩), .slice aA kA cA]) rfl rfl rfl rfl (by kernel_rfl) (by kernel_rfl) (by kernel_rfl) (by kernel_rfl) hS (fun u hu => ?_) ?_
    · obtain ⟨hq0, hq1, _, _⟩ := (HSf.out _ hu).ahead.cells; go_simp
    simp only [Act.put, List.getElem_toArray, List.getElem_cons_zero, List.setIfInBounds_toArray, List.set_cons_zero, List.set_cons_succ]
    refine Till.take (i := 1) (v := .pointer (some ⟨f, 0, none⟩)) rfl rfl rfl rfl (by kernel_rfl) (by kernel_rfl) (by kernel_rfl) (by kernel_rfl) hS (fun u hu => ?_) ?_
    · have hq := (HSf.out _ hu).fbx.cell; go_simp
    simp only [Act.put, List.getElem_toArray, List.getElem_cons_zero, List.getElem_cons_succ, List.setIfInBounds_toArray, List.set_cons_zero, List.set_cons_succ]
    refine Till.take (i := 2) (v := .int .u8 (bi X)) rfl rfl rfl rfl (by kernel_rfl) (by kernel_rfl) (by kernel_rfl) (by kernel_rfl) hS (fun u hu => ?_) ?_
    · go_simp
    simp only [Act.put, List.getElem_toArray, List.getElem_cons_zero, List.getElem_cons_succ, List.setIfInBounds_toArray, List.set_cons_zero, List.set_cons_succ]
    refine Till.lit (i := 3) (m := 2) (ob := .cells #[.int .u8 (bi X), .int .u8 1] 5) (by kernel_rfl) rfl rfl rfl (by go_simp) (fun b x0 hbb hbu => ?_)
    have hSk := hS
    have hS := HSb.out _ x0 hSk (by rw [hbu]; exact (Below.refl _ _).alloc (Nat.le_refl _) _)
    have hB := (show BR f x0 (some ⟨b, 0, none⟩) 2 2 [X, 1] by rw [hbu, hbb]; exact lit8_two f _ X 1 _ (HSf.out _ hSk).fa.fld.lt)
    clear hbb hbu hSk
    refine ⟨fun _ => hS, ?_⟩
    simp only [Act.put, List.getElem_toArray, List.getElem_cons_zero, List.getElem_cons_succ, List.setIfInBounds_toArray, List.set_cons_zero, List.set_cons_succ]
    refine Till.call (i := 4) (f := 55) (args := #[.pointer (some ⟨f, 0, none⟩), .slice (some ⟨b, 0, none⟩) 2 2]) (by kernel_rfl) rfl rfl rfl (by go_simp) ?_
    with_reducible refine Calls.mono (trimmed_agg f (some ⟨b, 0, none⟩) 2 2 [X, 1] _ hB HTWO.out) ?_
    rintro e x1 ⟨k3, rfl, h3, hb3⟩
    have hS := HSb.out _ _ hS hb3
    rw [trim_pair HNE.out X] at h3
    refine ⟨_, rfl, fun _ => hS, ?_⟩
    simp only [Act.put, List.getElem_toArray, List.getElem_cons_zero, List.getElem_cons_succ, List.setIfInBounds_toArray, List.set_cons_zero, List.set_cons_succ]
    refine Till.call (i := 5) (f := 56) (args := #[.agg #[.pointer (some ⟨f, 0, none⟩), .slice aA kA cA], .agg #[.pointer (some ⟨f, 0, none⟩), .slice (some ⟨b, 0, none⟩) k3 2]]) (by kernel_rfl) rfl rfl rfl (by go_simp) ?_
    with_reducible refine Calls.mono (ptimes_agg f aA _ kA k3 cA 2 p.2 [X, 1] _ (HSf.out _ hS).rowA h3 (HSf.out _ hS).fa.fld HKA.out.2 (HK5.out _ _ _ _ h3)) ?_
    rintro e x2 ⟨a6, k6, c6, rfl, h6, hf6⟩
    have hS := HSs.out _ _ hS hf6
    refine ⟨_, rfl, fun _ => hS, ?_⟩
    simp only [Act.put, List.getElem_toArray, List.getElem_cons_zero, List.getElem_cons_succ, List.setIfInBounds_toArray, List.set_cons_zero, List.set_cons_succ]
    obtain ⟨hq0, hq1, hz0, hz1⟩ := (HSf.out _ hS).ahead.cells
    refine Till.skip (i := 6) (w' := (World.setCell x2 ⟨w2.heap.size, 0, none⟩ (.pointer (some ⟨f, 0, none⟩))).setCell ⟨w2.heap.size, 1, none⟩ (.slice a6 k6 c6)) (by kernel_rfl) rfl rfl rfl (by go_simp) (fun h => absurd rfl h) ?_
    clear hq0 hq1 hz0 hz1
    simp only [Act.put, List.getElem_toArray, List.getElem_cons_zero, List.getElem_cons_succ]
    have hT := (HSf.out _ hS).putA HAP.out h6
    have hRK := (HSr.out _ hS).trans (RK.set2 x2 (b := w2.heap.size) HAP.out.hab (.pointer (some ⟨f, 0, none⟩)) (.slice a6 k6 c6))
    refine Till.done (by kernel_rfl) ?_ _
    generalize ((World.setCell x2 ⟨w2.heap.size, 0, none⟩ (.pointer (some ⟨f, 0, none⟩))).setCell ⟨w2.heap.size, 1, none⟩ (.slice a6 k6 c6)) = x3 at *
    clear h3 hb3 h6 hf6 hS hB HSf HSr HSs HSb HSd HK5
    have hI2 : ∃ aL kL cL aA kA cA, TS w f w.heap.size w1.heap.size w2.heap.size (w.heap.size + 1) (nw (pre ++ [(X, Y)])) aL kL cL aA kA cA x3 := by
      rw [HNW.out, show nwStep p (X, Y) = (P, trim (mulP p.2 [X, 1])) by unfold nwStep nwMend; rw [HP.out, HD.out]]
      exact ⟨_, _, _, _, _, _, hT⟩
    have hFl3 := hT.fa.fld
    clear hT
    gi_wp2_with fail
    exact ⟨hRK.1, fun _ => ⟨hFl3, hRK.2⟩, hI2⟩
  case done =>
    rintro D W hD ⟨aL, kL, cL, aA, kA, cA, hT⟩ hK
    obtain ⟨hq0, hq1, _, _⟩ := hT.line.cells
    obtain ⟨hr0, hr1, hz0, hz1⟩ := hT.out.cells
    have hPB := hT.out.put (some ⟨f, 0, none⟩) aL kL cL
    have hBR := hT.rowL.put hT.out (some ⟨f, 0, none⟩) aL kL cL
    have hFA := (hT.fa.set (g := w.heap.size + 1) (by omega) hlt 0 (.pointer (some ⟨f, 0, none⟩))).set (g := w.heap.size + 1) (by omega) hlt 1 (.slice aL kL cL)
    have hK' := ((KeepsOthers.setCell W ⟨w.heap.size + 1, 0, none⟩ (.pointer (some ⟨f, 0, none⟩))).trans (KeepsOthers.setCell _ ⟨w.heap.size + 1, 1, none⟩ (.slice aL kL cL))).same D _ hK rfl
    have HD := Lib.hid hD
    clear hT hK hD
    gi_wp2_with fail
    refine ⟨by simp, .inl ⟨_, _, rfl, run_takeDeferred hK', ?_⟩⟩
    have hg := grownBy_putObj' ((World.setCell W ⟨w.heap.size + 1, 0, none⟩ (.pointer (some ⟨f, 0, none⟩))).setCell ⟨w.heap.size + 1, 1, none⟩ (.slice aL kL cL)) D (.deferred none)
    have hpb := (hPB.ends hg (fun r e => by cases e; exact ⟨_, hK', rfl⟩)).cells
    have hbr := hBR.ends hg (fun r e => by cases e; exact ⟨_, hK', rfl⟩)
    have hfa := hFA.ends hg (fun r e => by cases e; exact ⟨by have := HD.out; have := HSA.out; omega, _, hK', rfl⟩)
    obtain ⟨ho0, ho1, _, _⟩ := hpb
    refine ⟨.agg #[.pointer (some ⟨f, 0, none⟩), .slice aL kL cL], ?_, _, _, _, rfl, hbr, hfa⟩
    simp [results, go_sem, ho0, ho1]
end Go.Proofs.YtdnbkjiijpeiiaaGreat
/- What the program's Through and AtZero answer. -/
namespace Go.Proofs.YtdnbkjiijpeiiaaGreat
open Go.RowKit Go.PlainAid G MGF IRow
set_option linter.unusedVariables false
theorem Fld.box {w : World} {f : Nat} (h : Fld w f) (o : Obj) : Fld (w.alloc o) f := h.alloc o
theorem cell_made (w : World) (v : Value) (t : TypeId) : (w.alloc (.cells #[v] t)).cell? ⟨w.heap.size, 0, none⟩ = some v := by
  have h : (w.alloc (.cells #[v] t)).heap[w.heap.size]? = some (.cells #[v] t (0, 0)) := by show (w.heap.push _)[w.heap.size]? = _; simp
  unfold World.cell?
  dsimp only
  rw [h]
  rfl
end Go.Proofs.YtdnbkjiijpeiiaaGreat
