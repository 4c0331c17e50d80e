/- Used by the law. -/
import Derived.Still
import Derived.StillTactics
import Derived.Orders
import Derived.Deep.MidRow
import Derived.Test.YtbgoldeopmlbnaaGreatDoorQB09
set_option maxRecDepth 100000
set_option maxHeartbeats 16000000
namespace Go.Proofs.YtbgoldeopmlbnaaGreatDoor
open Go.RowKit Go.PlainAid G MGF IRow
set_option linter.unusedVariables false
theorem grown_below {B : Nat} {w x y : World} {h : Nat} (hb : Below B w x) (hg : x.grownBy y (some h)) (hB : B <= h) (hs : B <= x.heap.size) : Below B w y :=
 hb.grown hg hs (fun q hq => by obtain rfl : h = q:=Option.some.inj hq;exact hB)
theorem own_apartP {w w' : World} {base : Nat} {e : TypeId} {size : Nat} {v : Value} {n : Nat} {xs : List Value} {M : Nat} (h : w.ownsRow base e size v n xs) (hg : w.grownBy w' (some M)) (hne : ∀ g,v.ownBlock = some g -> g ≠ M) : w'.ownsRow base e size v n xs:=by
 refine h.kept hg ?_
 cases hv : v.ownBlock with
 | none => exact .inl rfl
 | some g => exact .inr (fun e => hne g hv (Option.some.inj e))
theorem own_far {w w' : World} {base : Nat} {e : TypeId} {size : Nat} {v : Value} {n : Nat} {xs : List Value} {M : Nat} (h : w.ownsRow base e size v n xs) (hg : w.grownBy w' (some M)) (hM : M < base) : w'.ownsRow base e size v n xs :=
 own_apartP h hg (fun g hg e => by have:=(h.lt g hg).1;omega)
theorem bkO_far {w w' : World} {base : Nat} {a1 a2 : Option Addr} {n1 a3 n2 a4 : Nat} {ts : List Tm} {is : List Im} {M : Nat} (h : BkO w base a1 n1 a3 a2 n2 a4 ts is) (hg : w.grownBy w' (some M)) (hM : M < base) : BkO w' base a1 n1 a3 a2 n2 a4 ts is:=⟨own_far h.t hg hM,own_far h.i hg hM⟩
theorem set_grown (x : World) (h j : Nat) (v : Value) : x.grownBy (x.setCell ⟨h,j,none⟩ v) (some h) :=
 ⟨rfl,rfl,rfl,by simp,fun k hk hne => Below.heap_setCell x ⟨h,j,none⟩ v k (fun e => hne (by rw [e]))⟩
theorem box_put6 {x : World} {h : Nat} {z0 z1 z2 z3 z4 z5 : Value} (k : BoxC x h [z0,z1,z2,z3,z4,z5]) (v0 v1 v2 v3 v4 v5 : Value) :
 BoxC ((((((x.setCell ⟨h,0,none⟩ v0).setCell ⟨h,1,none⟩ v1).setCell ⟨h,2,none⟩ v2).setCell ⟨h,3,none⟩ v3).setCell ⟨h,4,none⟩ v4).setCell ⟨h,5,none⟩ v5) h [v0,v1,v2,v3,v4,v5] ∧
 x.grownBy ((((((x.setCell ⟨h,0,none⟩ v0).setCell ⟨h,1,none⟩ v1).setCell ⟨h,2,none⟩ v2).setCell ⟨h,3,none⟩ v3).setCell ⟨h,4,none⟩ v4).setCell ⟨h,5,none⟩ v5) (some h) :=
 ⟨((((((k.set (j:=0) (by simp) v0).set (j:=1) (by simp) v1).set (j:=2) (by simp) v2).set (j:=3) (by simp) v3).set (j:=4) (by simp) v4).set (j:=5) (by simp) v5),
  grown_trans (grown_trans (grown_trans (grown_trans (grown_trans (set_grown x h 0 v0) (set_grown _ h 1 v1)) (set_grown _ h 2 v2)) (set_grown _ h 3 v3)) (set_grown _ h 4 v4)) (set_grown _ h 5 v5)⟩
theorem box_put7 {x : World} {h : Nat} {z0 z1 z2 z3 z4 z5 z6 : Value} (k : BoxC x h [z0,z1,z2,z3,z4,z5,z6]) (v0 v1 v2 v3 v4 v5 v6 : Value) :
 BoxC (((((((x.setCell ⟨h,0,none⟩ v0).setCell ⟨h,1,none⟩ v1).setCell ⟨h,2,none⟩ v2).setCell ⟨h,3,none⟩ v3).setCell ⟨h,4,none⟩ v4).setCell ⟨h,5,none⟩ v5).setCell ⟨h,6,none⟩ v6) h [v0,v1,v2,v3,v4,v5,v6] ∧
 x.grownBy (((((((x.setCell ⟨h,0,none⟩ v0).setCell ⟨h,1,none⟩ v1).setCell ⟨h,2,none⟩ v2).setCell ⟨h,3,none⟩ v3).setCell ⟨h,4,none⟩ v4).setCell ⟨h,5,none⟩ v5).setCell ⟨h,6,none⟩ v6) (some h) :=
 ⟨(((((((k.set (j:=0) (by simp) v0).set (j:=1) (by simp) v1).set (j:=2) (by simp) v2).set (j:=3) (by simp) v3).set (j:=4) (by simp) v4).set (j:=5) (by simp) v5).set (j:=6) (by simp) v6),
  grown_trans (grown_trans (grown_trans (grown_trans (grown_trans (grown_trans (set_grown x h 0 v0) (set_grown _ h 1 v1)) (set_grown _ h 2 v2)) (set_grown _ h 3 v3)) (set_grown _ h 4 v4)) (set_grown _ h 5 v5)) (set_grown _ h 6 v6)⟩
end Go.Proofs.YtbgoldeopmlbnaaGreatDoor
namespace Go.Proofs.YtbgoldeopmlbnaaGreatDoor.TillZ
open Go
section
variable {P : Program} {ops : Array Oper} {md : Region.Mode} {S : World -> Prop} {Q : Exit -> Act -> World -> Prop}
def upZ (P : Program) (o : Oper) (a : Act) (next : Act -> World -> Prop) : Result Next -> Prop
 | .ok (.value v) w' => next (a.put o.dst v) w'
 | .ok .skip w' => next (a.put o.dst undef) w'
 | .ok (.enter f args) w' => Calls P f args w' fun
  | .returned v,w'' => next (a.put o.dst v) w''
  | _,_ => False
 | _ => False
theorem upZ_mono {o : Oper} {a : Act} {K K' : Act -> World -> Prop} (h : ∀ a w,K a w -> K' a w) {r : Result Next} (hr : upZ P o a K r) : upZ P o a K' r:=by
 cases r with
 | ok x w' =>
  cases x <;> first
   | exact h _ _ hr
   | exact Calls.mono hr (fun e w'' he => by cases e <;> first | exact h _ _ he | exact he)
   | exact hr.elim
 | halt x w' => exact hr.elim
def opZ (P : Program) (ops : Array Oper) (i : Nat) (K : Act -> World -> Prop) (a : Act) (w : World) : Prop :=
 ∃ o,ops[i]? = some o /\ o.guard = none /\ upZ P o a K ((execOp a.eval o).run P w)
theorem opZ_mono {i : Nat} {a : Act} {w : World} {K K' : Act -> World -> Prop} (h : ∀ a w,K a w -> K' a w) (hh : opZ P ops i K a w) : opZ P ops i K' a w:=by
 obtain ⟨o,h1,h2,h4⟩:=hh
 exact ⟨o,h1,h2,upZ_mono h h4⟩
theorem opZ_wp {i : Nat} {a : Act} {w : World} {K : Act -> World -> Prop} (h : opZ P ops i K a w) : wpOp P ops Q i K a w:=by
 obtain ⟨o,ho,hg,hu⟩:=h
 unfold wpOp
 rw [ho]
 dsimp only
 rw [if_pos (by simp [Region.wanted,hg])]
 refine .inl ?_
 unfold Oper.wp
 generalize (execOp a.eval o).run P w = r at *
 cases r with
 | ok x w' =>
  cases x <;> first
   | exact hu
   | exact Calls.mono hu (fun e w'' he => by cases e <;> first | exact he | exact he.elim)
   | exact hu.elim
 | halt x w' => exact hu.elim
def wpZ (P : Program) (md : Region.Mode) (ops : Array Oper) (S : World -> Prop) (t : Nat) (Q : Exit -> Act -> World -> Prop) : Nat -> Array Bool -> Act -> World -> Prop
 | 0,_,_,_ => False
 | k + 1,listed,a,w => Region.ready md ops listed ≠ [] /\ ∀ i ∈ Region.ready md ops listed,opZ P ops i (fun a' w' => (i = t -> wpAny P md ops Q k (listed.setIfInBounds i true) a' w') /\ (i ≠ t -> S w' /\ wpZ P md ops S t Q k (listed.setIfInBounds i true) a' w')) a w
theorem any_of {t : Nat} : ∀ (k : Nat) (listed : Array Bool) (a : Act) (w : World),wpZ P md ops S t Q k listed a w -> wpAny P md ops Q k listed a w
 | 0,_,_,_,h => h.elim
 | k + 1,listed,a,w,h => ⟨fun h0 => absurd h0 h.1,fun i hi => opZ_wp (opZ_mono (fun a' w' h2 => by
  by_cases e : i = t
  · exact h2.1 e
  · exact any_of k _ _ _ (h2.2 e).2) (h.2 i hi))⟩
def YieldsZ (P : Program) (S : World -> Prop) (o : Oper) (v : Value) (a : Act) : Prop:=∀ w,S w -> (execOp a.eval o).run P w = .ok (.value v) w
theorem put_step {j : Nat} {oi oj : Oper} {v : Value} (hj : ops[j]? = some oj) (hap : oi.apart ops oj = true) (hsi : ∀ cs b,oi.op ≠ .select cs b) (hsj : ∀ cs b,oj.op ≠ .select cs b) {K : Act -> World -> Prop} {a : Act} {w : World}
 (hy : YieldsZ P S oi v a) (h : opZ P ops j K (a.put oi.dst v) w) : opZ P ops j (fun a' w' => YieldsZ P S oi v a' /\ K (a'.put oi.dst v) w') a w:=by
 obtain ⟨h1,h2,h3⟩:=Oper.apart_spec hap
 have keep : ∀ u,YieldsZ P S oi v (a.put oj.dst u):=fun u w hS => by
  rw [execOp_put (ops:=ops) oi hsi a oj.dst u h3]
  exact hy w hS
 obtain ⟨o,ho,hg,hu⟩:=h
 obtain rfl : o = oj:=Option.some.inj (ho.symm.trans hj)
 refine ⟨o,hj,hg,?_⟩
 rw [execOp_put (ops:=ops) o hsj a oi.dst v h1] at hu
 generalize (execOp a.eval o).run P w = r at *
 cases r with
 | ok x w' =>
  cases x <;> first
   | exact ⟨keep _,by rw [<- Act.put_comm a v _ h2];exact hu⟩
   | exact Calls.mono hu (fun e w'' he => by cases e <;> first | exact ⟨keep _,by rw [<- Act.put_comm a v _ h2];exact he⟩ | exact he)
   | exact hu.elim
 | halt x w' => exact hu.elim
theorem first {i t : Nat} {oi ot : Oper} {v : Value} (hi : ops[i]? = some oi) (hg : oi.guard = none) (hne : i ≠ t) (ht : ops[t]? = some ot) (hw : ∃ e ∈ ot.after,Region.binds md e = true /\ e.on = i)
 (hsel : ∀ (j : Nat) (o : Oper) cs b,ops[j]? = some o -> o.op ≠ .select cs b) :
 ∀ (k : Nat) (listed : Array Bool) (a : Act) (w : World),
  (∀ j oj,ops[j]? = some oj -> j ≠ i -> listed.getD j true = false -> (∀ e ∈ oj.after,Region.binds md e = true -> e.on ≠ i) -> oi.apart ops oj = true) →
  i ∈ Region.ready md ops listed -> YieldsZ P S oi v a -> S w →
  wpZ P md ops S t Q k (listed.setIfInBounds i true) (a.put oi.dst v) w -> wpZ P md ops S t Q (k + 1) listed a w:=by
 intro k
 induction k with
 | zero => intro listed a w _ _ _ _ H;exact H.elim
 | succ k ih =>
  intro listed a w hfree hr hy hS H
  refine ⟨fun h => (by rw [h] at hr;cases hr),fun j hj => ?_⟩
  by_cases hji : j = i
  · subst hji
    exact ⟨oi,hi,hg,by rw [hy w hS];exact ⟨fun e => absurd e hne,fun _ => ⟨hS,H⟩⟩⟩
  · obtain ⟨hjun,oj,hoj,hall⟩:=mem_ready.1 hj
    have hun : ∀ e ∈ oj.after,Region.binds md e = true -> e.on ≠ i:=fun e he hb heq => by
     have ha:=hall e he hb
     have hb0:=(mem_ready.1 hr).1
     rw [heq] at ha
     rcases Nat.lt_or_ge i listed.size with hl | hl
     · simp [hl] at hb0 ha;rw [hb0] at ha;cases ha
     · simp [Array.getElem?_eq_none hl] at ha
    have hjt : j ≠ t:=fun e => by
     subst e
     obtain rfl : oj = ot:=Option.some.inj (hoj.symm.trans ht)
     obtain ⟨e,he,hb,hon⟩:=hw
     exact hun e he hb hon
    have hs:=put_step hoj (hfree j oj hoj hji hjun hun) (fun cs b => hsel i oi cs b hi) (fun cs b => hsel j oj cs b hoj) hy (H.2 j (ready_mono hj hji))
    refine opZ_mono (fun a' w' h3 => ?_) hs
    obtain ⟨hS',h4⟩:=h3.2.2 hjt
    refine ⟨fun e => absurd e hjt,fun _ => ⟨hS',ih (listed.setIfInBounds j true) a' w' (fun m om hm hmi hmun hno => hfree m om hm hmi (by
     by_cases hjm : j = m
     · rw [<- hjm];exact hjun
     · rw [getD_set_ne true hjm] at hmun;exact hmun) hno) (ready_mono hr (Ne.symm hji)) h3.1 hS' ?_⟩⟩
    rw [Array.setIfInBounds_comm _ _ hji]
    exact h4
def waits (md : Region.Mode) (ops : Array Oper) (t i : Nat) : Bool:=match ops[t]? with | some o => o.after.any (fun e => Region.binds md e && e.on == i) | none => false
theorem take {i t : Nat} {oi : Oper} {v : Value} {k : Nat} {listed : Array Bool} {a : Act} {w : World} (hi : ops[i]? = some oi) (hg : oi.guard = none) (hne : Nat.beq i t = false) (hw : waits md ops t i = true)
 (hs : Region.noSelect ops = true) (hf : Region.free md ops listed i = true) (hr : (Region.ready md ops listed).contains i = true) (hS : S w) (hy : YieldsZ P S oi v a)
 (h : wpZ P md ops S t Q k (listed.setIfInBounds i true) (a.put oi.dst v) w) : wpZ P md ops S t Q (k + 1) listed a w:=by
 unfold waits at hw
 cases ht : ops[t]? with
 | none => rw [ht] at hw;cases hw
 | some ot =>
  rw [ht] at hw
  obtain ⟨e,he,hb⟩:=Array.any_eq_true'.1 hw
  simp only [Bool.and_eq_true,beq_iff_eq] at hb
  exact first hi hg (Nat.ne_of_beq_eq_false hne) ht ⟨e,he,hb.1,hb.2⟩ (Region.noSelect_spec hs) k listed a w (Region.free_spec hi hf) (by simpa using hr) hy hS h
theorem take4 {i t : Nat} {oi : Oper} {v : Value} {k : Nat} {listed : Array Bool} {a : Act} {w : World} (hi : ops[i]? = some oi) (hg : oi.guard = none) (hne : Nat.beq i t = false) (hw : (waits md ops t i && (Region.noSelect ops && (Region.free md ops listed i && (Region.ready md ops listed).contains i))) = true) (hS : S w) (hy : YieldsZ P S oi v a)
 (h : wpZ P md ops S t Q k (listed.setIfInBounds i true) (a.put oi.dst v) w) : wpZ P md ops S t Q (k + 1) listed a w:=by
 simp only [Bool.and_eq_true] at hw
 exact take hi hg hne hw.1 hw.2.1 hw.2.2.1 hw.2.2.2 hS hy h
theorem value {i t : Nat} {o : Oper} {k : Nat} {listed : Array Bool} {a : Act} {w : World} {v : Value} (hr : Region.ready md ops listed = [i]) (ho : ops[i]? = some o) (hg : o.guard = none) (hne : Nat.beq i t = false) (he : (execOp a.eval o).run P w = .ok (.value v) w) (hS : S w)
 (h : wpZ P md ops S t Q k (listed.setIfInBounds i true) (a.put o.dst v) w) : wpZ P md ops S t Q (k + 1) listed a w:=by
 refine ⟨fun h0 => (by rw [hr] at h0;cases h0),fun j hj => ?_⟩
 rw [hr] at hj
 obtain rfl : j = i:=by simpa using hj
 exact ⟨o,ho,hg,by rw [he];exact ⟨fun e => absurd e (Nat.ne_of_beq_eq_false hne),fun _ => ⟨hS,h⟩⟩⟩
theorem opz {i t : Nat} {o : Oper} {k : Nat} {listed : Array Bool} {a : Act} {w w' : World} {v : Value} (ho : ops[i]? = some o) (hg : o.guard = none) (hne : Nat.beq i t = false) (he : (execOp a.eval o).run P w = .ok (.value v) w') (hS : S w')
 (h : wpZ P md ops S t Q k (listed.setIfInBounds i true) (a.put o.dst v) w') : opZ P ops i (fun a' w' => (i = t -> wpAny P md ops Q k (listed.setIfInBounds i true) a' w') /\ (i ≠ t -> S w' /\ wpZ P md ops S t Q k (listed.setIfInBounds i true) a' w')) a w :=
 ⟨o,ho,hg,by rw [he];exact ⟨fun e => absurd e (Nat.ne_of_beq_eq_false hne),fun _ => ⟨hS,h⟩⟩⟩
theorem opz_skip {i t : Nat} {o : Oper} {k : Nat} {listed : Array Bool} {a : Act} {w w' : World} (ho : ops[i]? = some o) (hg : o.guard = none) (hne : Nat.beq i t = false) (he : (execOp a.eval o).run P w = .ok .skip w') (hS : S w')
 (h : wpZ P md ops S t Q k (listed.setIfInBounds i true) (a.put o.dst undef) w') : opZ P ops i (fun a' w' => (i = t -> wpAny P md ops Q k (listed.setIfInBounds i true) a' w') /\ (i ≠ t -> S w' /\ wpZ P md ops S t Q k (listed.setIfInBounds i true) a' w')) a w :=
 ⟨o,ho,hg,by rw [he];exact ⟨fun e => absurd e (Nat.ne_of_beq_eq_false hne),fun _ => ⟨hS,h⟩⟩⟩
theorem one {i t : Nat} {k : Nat} {listed : Array Bool} {a : Act} {w : World} (hr : Region.ready md ops listed = [i]) (h : opZ P ops i (fun a' w' => (i = t -> wpAny P md ops Q k (listed.setIfInBounds i true) a' w') /\ (i ≠ t -> S w' /\ wpZ P md ops S t Q k (listed.setIfInBounds i true) a' w')) a w) : wpZ P md ops S t Q (k + 1) listed a w:=by
 refine ⟨fun h0 => (by rw [hr] at h0;cases h0),fun j hj => ?_⟩
 rw [hr] at hj
 obtain rfl : j = i:=by simpa using hj
 exact h
theorem two {i j t : Nat} {k : Nat} {listed : Array Bool} {a : Act} {w : World} (hr : Region.ready md ops listed = [i,j])
 (h : opZ P ops i (fun a' w' => (i = t -> wpAny P md ops Q k (listed.setIfInBounds i true) a' w') /\ (i ≠ t -> S w' /\ wpZ P md ops S t Q k (listed.setIfInBounds i true) a' w')) a w)
 (h2 : opZ P ops j (fun a' w' => (j = t -> wpAny P md ops Q k (listed.setIfInBounds j true) a' w') /\ (j ≠ t -> S w' /\ wpZ P md ops S t Q k (listed.setIfInBounds j true) a' w')) a w) : wpZ P md ops S t Q (k + 1) listed a w:=by
 refine ⟨fun h0 => (by rw [hr] at h0;cases h0),fun m hm => ?_⟩
 rw [hr] at hm
 rcases List.mem_cons.1 hm with rfl | hm
 · exact h
 · obtain rfl : m = j:=by simpa using hm
   exact h2
theorem callz {i t : Nat} {o : Oper} {k : Nat} {listed : Array Bool} {a : Act} {w : World} {f : FuncId} {args : Array Value} (ho : ops[i]? = some o) (hg : o.guard = none) (hne : Nat.beq i t = false) (he : (execOp a.eval o).run P w = .ok (.enter f args) w)
 (h : Calls P f args w fun e w'' => ∃ v,e = .returned v /\ S w'' /\ wpZ P md ops S t Q k (listed.setIfInBounds i true) (a.put o.dst v) w'') : opZ P ops i (fun a' w' => (i = t -> wpAny P md ops Q k (listed.setIfInBounds i true) a' w') /\ (i ≠ t -> S w' /\ wpZ P md ops S t Q k (listed.setIfInBounds i true) a' w')) a w :=
 ⟨o,ho,hg,by rw [he];exact Calls.mono h (fun e w'' he => by obtain ⟨v,rfl,hS,h1⟩:=he;exact ⟨fun e => absurd e (Nat.ne_of_beq_eq_false hne),fun _ => ⟨hS,h1⟩⟩)⟩
theorem call {i t : Nat} {o : Oper} {k : Nat} {listed : Array Bool} {a : Act} {w : World} {f : FuncId} {args : Array Value} (hr : Region.ready md ops listed = [i]) (ho : ops[i]? = some o) (hg : o.guard = none) (hne : Nat.beq i t = false) (he : (execOp a.eval o).run P w = .ok (.enter f args) w)
 (h : Calls P f args w fun e w'' => ∃ v,e = .returned v /\ S w'' /\ wpZ P md ops S t Q k (listed.setIfInBounds i true) (a.put o.dst v) w'') : wpZ P md ops S t Q (k + 1) listed a w :=
 one hr ⟨o,ho,hg,by rw [he];exact Calls.mono h (fun e w'' he => by obtain ⟨v,rfl,hS,h1⟩:=he;exact ⟨fun e => absurd e (Nat.ne_of_beq_eq_false hne),fun _ => ⟨hS,h1⟩⟩)⟩
theorem hand_skip {t : Nat} {o : Oper} {k : Nat} {listed : Array Bool} {a : Act} {w w' : World} (hr : Region.ready md ops listed = [t]) (ho : ops[t]? = some o) (hg : o.guard = none) (he : (execOp a.eval o).run P w = .ok .skip w')
 (h : wpAny P md ops Q k (listed.setIfInBounds t true) (a.put o.dst undef) w') : wpZ P md ops S t Q (k + 1) listed a w:=by
 refine ⟨fun h0 => (by rw [hr] at h0;cases h0),fun j hj => ?_⟩
 rw [hr] at hj
 obtain rfl : j = t:=by simpa using hj
 exact ⟨o,ho,hg,by rw [he];exact ⟨fun _ => h,fun e => absurd rfl e⟩⟩
theorem any_done {listed : Array Bool} {a : Act} {w : World} (hr : Region.ready md ops listed = []) (h : Q .normal a w) : ∀ k,wpAny P md ops Q k listed a w
 | 0 => ⟨hr,h⟩
 | _ + 1 => ⟨fun _ => h,by rw [hr];simp⟩
theorem hand {t : Nat} {o : Oper} {k : Nat} {listed : Array Bool} {a : Act} {w : World} {v : Value} (hr : Region.ready md ops listed = [t]) (ho : ops[t]? = some o) (hg : o.guard = none) (he : (execOp a.eval o).run P w = .ok (.value v) w)
 (h : wpAny P md ops Q k (listed.setIfInBounds t true) (a.put o.dst v) w) : wpZ P md ops S t Q (k + 1) listed a w:=by
 refine ⟨fun h0 => (by rw [hr] at h0;cases h0),fun j hj => ?_⟩
 rw [hr] at hj
 obtain rfl : j = t:=by simpa using hj
 exact ⟨o,ho,hg,by rw [he];exact ⟨fun _ => h,fun e => absurd rfl e⟩⟩
theorem any_value {i : Nat} {o : Oper} {k : Nat} {listed : Array Bool} {a : Act} {w : World} {v : Value} (hr : Region.ready md ops listed = [i]) (ho : ops[i]? = some o) (hg : o.guard = none) (he : (execOp a.eval o).run P w = .ok (.value v) w)
 (h : wpAny P md ops Q k (listed.setIfInBounds i true) (a.put o.dst v) w) : wpAny P md ops Q (k + 1) listed a w:=by
 refine ⟨fun h0 => (by rw [hr] at h0;cases h0),fun j hj => ?_⟩
 rw [hr] at hj
 obtain rfl : j = i:=by simpa using hj
 exact opZ_wp ⟨o,ho,hg,by rw [he];exact h⟩
theorem any_call {i : Nat} {o : Oper} {k : Nat} {listed : Array Bool} {a : Act} {w : World} {f : FuncId} {args : Array Value} (hr : Region.ready md ops listed = [i]) (ho : ops[i]? = some o) (hg : o.guard = none) (he : (execOp a.eval o).run P w = .ok (.enter f args) w)
 (h : Calls P f args w fun e w'' => ∃ v,e = .returned v /\ wpAny P md ops Q k (listed.setIfInBounds i true) (a.put o.dst v) w'') : wpAny P md ops Q (k + 1) listed a w:=by
 refine ⟨fun h0 => (by rw [hr] at h0;cases h0),fun j hj => ?_⟩
 rw [hr] at hj
 obtain rfl : j = i:=by simpa using hj
 exact opZ_wp ⟨o,ho,hg,by rw [he];exact Calls.mono h (fun e w'' he => by obtain ⟨v,rfl,h1⟩:=he;exact h1)⟩
theorem wp_of_up {o : Oper} {a : Act} {w : World} {K : Act -> World -> Prop} (hu : upZ P o a K ((execOp a.eval o).run P w)) : o.wp P a w K Q:=by
 unfold Oper.wp
 generalize (execOp a.eval o).run P w = r at *
 cases r with
 | ok x w' =>
  cases x <;> first
   | exact hu
   | exact Calls.mono hu (fun e w'' he => by cases e <;> first | exact he | exact he.elim)
   | exact hu.elim
 | halt x w' => exact hu.elim
theorem any_callg {i : Nat} {o : Oper} {k : Nat} {listed : Array Bool} {a : Act} {w : World} {f : FuncId} {args : Array Value} (hr : Region.ready md ops listed = [i]) (ho : ops[i]? = some o) (hw : Region.wanted o (yielded ops a.tmps) = true) (he : (execOp a.eval o).run P w = .ok (.enter f args) w)
 (h : Calls P f args w fun e w'' => ∃ v,e = .returned v /\ wpAny P md ops Q k (listed.setIfInBounds i true) (a.put o.dst v) w'') : wpAny P md ops Q (k + 1) listed a w:=by
 refine ⟨fun h0 => (by rw [hr] at h0;cases h0),fun j hj => ?_⟩
 rw [hr] at hj
 obtain rfl : j = i:=by simpa using hj
 unfold wpOp
 rw [ho]
 dsimp only
 rw [if_pos hw]
 exact .inl (wp_of_up (by rw [he];exact Calls.mono h (fun e w'' he => by obtain ⟨v,rfl,h1⟩:=he;exact h1)))
theorem any_valueg {i : Nat} {o : Oper} {k : Nat} {listed : Array Bool} {a : Act} {w w' : World} {v : Value} (hr : Region.ready md ops listed = [i]) (ho : ops[i]? = some o) (hw : Region.wanted o (yielded ops a.tmps) = true) (he : (execOp a.eval o).run P w = .ok (.value v) w')
 (h : wpAny P md ops Q k (listed.setIfInBounds i true) (a.put o.dst v) w') : wpAny P md ops Q (k + 1) listed a w:=by
 refine ⟨fun h0 => (by rw [hr] at h0;cases h0),fun j hj => ?_⟩
 rw [hr] at hj
 obtain rfl : j = i:=by simpa using hj
 unfold wpOp
 rw [ho]
 dsimp only
 rw [if_pos hw]
 exact .inl (wp_of_up (by rw [he];exact h))
theorem still {g m : Nat} {listed : Array Bool} {a : Act} {w : World} (hg : g = ops.toList.length - m) (hs : Region.noSelect ops = true) (hB : Region.lexFrom md ops g m listed = true)
 (h : wpStill P ops w (fun a' => Q .normal a' w) (ops.toList.drop m) a) : wpAny P md ops Q g listed a w:=by
 have hl : (ops.toList.drop m).length = g:=by rw [List.length_drop,hg]
 have h1:=wpAnyS_lex (md:=md) (w:=w) (Q:=fun a' => Q .normal a' w) hs (ops.toList.drop m) m listed a (fun j => by simp [List.getElem?_drop]) (by rw [hl];exact hB) h
 rw [hl] at h1
 exact wpAny_of_still (fun _ h => h) _ _ _ h1
theorem no {K : Act -> Prop} {l : List Oper} {o : Oper} {a : Act} {w : World} (hw : Region.wanted o (yielded ops a.tmps) = false) (h : wpStill P ops w K l (a.put o.dst undef)) : wpStill P ops w K (o :: l) a:=by
 unfold wpStill
 rw [if_neg (by rw [hw];decide)]
 exact h
theorem step {K : Act -> Prop} {l : List Oper} {o : Oper} {a : Act} {w : World} (hw : Region.wanted o (yielded ops a.tmps) = true) (h : ∀ K' : Act -> Prop,(∀ a,wpStill P ops w K l a -> K' a) -> o.still P a w K') : wpStill P ops w K (o :: l) a:=by
 unfold wpStill
 rw [if_pos hw]
 exact h _ (fun _ h => h)
theorem region {id t : Nat} {a : Act} {w : World} (hm : P.follows .mixedOrders = true) (S : World -> Prop) (h : wpZ P .any ops S t Q ops.size (Array.replicate ops.size false) a w.drew) : (Code.region id ops true).wp P Q a w :=
 wp_region_any hm (any_of _ _ _ _ h)
end
end Go.Proofs.YtbgoldeopmlbnaaGreatDoor.TillZ
namespace Go.Proofs.YtbgoldeopmlbnaaGreatDoor
open Go.RowKit Go.PlainAid G MGF IRow
set_option linter.unusedVariables false
theorem BoxC.range {w : World} {h : Nat} {cs : List Value} (b : BoxC w h cs) : w.rangeAt h 0 cs:=fun j v hv => by rw [Nat.zero_add];exact b.cell j v hv
theorem BoxC.there {w : World} {h : Nat} {cs : List Value} (b : BoxC w h cs) : w.there h 0 cs.length:=fun j hj => by
 rw [Nat.zero_add]
 exact ⟨by rw [b.cell j _ (List.getElem?_eq_getElem hj)];rfl,b.free j⟩
def rowIs (P : Program) (ty : TypeId) (n : Nat) : Bool:=(match P.underlying ty with | some d => d.isRow | none => false) && (match P.info? ty with | some i => Nat.beq i.size n | none => false)
theorem rowIs_row {P : Program} {ty : TypeId} {n : Nat} (h : rowIs P ty n = true) : ∃ d,P.underlying ty = some d /\ d.isRow = true:=by
 unfold rowIs at h
 cases hu : P.underlying ty with
 | none => rw [hu] at h;cases h
 | some d => rw [hu] at h;exact ⟨d,rfl,(Bool.and_eq_true_iff.1 h).1⟩
theorem rowIs_size {P : Program} {ty : TypeId} {n : Nat} (h : rowIs P ty n = true) : (P.info? ty).map (·.size) = some n:=by
 unfold rowIs at h
 have h2:=(Bool.and_eq_true_iff.1 h).2
 cases hu : P.info? ty with
 | none => rw [hu] at h2;cases h2
 | some d => rw [hu] at h2;rw [Option.map_some,Nat.eq_of_beq_eq_true h2]
theorem exec_load {P : Program} {o : Oper} {f : Operand -> Value} {w : World} {h : Nat} {cs : List Value} (b : BoxC w h cs) (ty : TypeId) (x : Operand) (n : Nat) (ho : o.op = .load ty x) (hx : f x = .pointer (some ⟨h,0,none⟩)) (hn : cs.length = n) (hr : rowIs P ty n = true) :
 (execOp f o).run P w = .ok (.value (.agg cs.toArray)) w:=by
 obtain ⟨d,hu,hd⟩:=rowIs_row hr
 unfold execOp
 simp only [ho,hx,Instr.loadAt,Instr.sureAddr,Sem.run_bind,Sem.run_pure,Result.andThen_ok,run_loadVar_mid w h 0 ty cs d b.range hu hd (by rw [hn];exact rowIs_size hr)]
theorem exec_store {P : Program} {o : Oper} {f : Operand -> Value} {w : World} {h : Nat} {cs vs : List Value} (b : BoxC w h cs) (ty : TypeId) (x y : Operand) (n : Nat) (ho : o.op = .store ty x y) (hx : f x = .pointer (some ⟨h,0,none⟩)) (hy : f y = .agg vs.toArray) (hn : cs.length = n) (hv : vs.length = n) (h1 : vs.all (·.oneCell') = true) (hr : rowIs P ty n = true) :
 (execOp f o).run P w = .ok .skip (w.setCells h 0 vs):=by
 unfold execOp
 simp only [ho,hx,hy,Instr.storeAt,Instr.sureAddr,Sem.run_bind,Sem.run_pure,Result.andThen_ok,run_storeVar_mid w h 0 ty vs.toArray (by have:=b.there;rw [hn] at this;simpa [hv] using this) (by rw [rowIs_size hr];simp [hv]) (all_oneCell_toArray (List.all_eq_true.1 h1))]
theorem setCells_grown (h : Nat) : ∀ (vs : List Value) (o : Nat) (x : World),x.grownBy (x.setCells h o vs) (some h)
 | [],_,_ => ⟨rfl,rfl,rfl,Nat.le_refl _,fun _ _ _ => rfl⟩
 | v :: r,o,x => by
  rw [World.setCells]
  exact grown_trans (set_grown x h o v) (setCells_grown h r (o + 1) _)
theorem box_setCells {x : World} {h : Nat} {cs : List Value} (b : BoxC x h cs) (vs : List Value) (hv : vs.length = cs.length) : BoxC (x.setCells h 0 vs) h vs :=
 ⟨Nat.lt_of_lt_of_le b.lt (setCells_grown h vs 0 x).size,fun j v hj => by
  have:=World.rangeAt_setCells_same x h 0 vs (by rw [hv];exact b.there) j v hj
  rw [Nat.zero_add] at this
  exact this,fun j => by rw [World.frozen?_setCells];exact b.free j⟩
theorem list_value {P : Program} {ops : Array Oper} {Q : Exit -> Act -> World -> Prop} {rest : List Oper} {o : Oper} {a : Act} {w w' : World} {v : Value} (hg : o.guard = none) (he : (execOp a.eval o).run P w = .ok (.value v) w') (h : wpList P ops Q rest (a.put o.dst v) w') : wpList P ops Q (o :: rest) a w :=
 wpList_plain hg fun K hK => by unfold Oper.wp;rw [he];exact hK _ _ h
theorem list_skip {P : Program} {ops : Array Oper} {Q : Exit -> Act -> World -> Prop} {rest : List Oper} {o : Oper} {a : Act} {w w' : World} (hg : o.guard = none) (he : (execOp a.eval o).run P w = .ok .skip w') (h : wpList P ops Q rest (a.put o.dst undef) w') : wpList P ops Q (o :: rest) a w :=
 wpList_plain hg fun K hK => by unfold Oper.wp;rw [he];exact hK _ _ h
theorem list_load {P : Program} {ops : Array Oper} {Q : Exit -> Act -> World -> Prop} {rest : List Oper} {o : Oper} {a : Act} {w : World} {h : Nat} {cs : List Value} (b : BoxC w h cs) (ty : TypeId) (x : Operand) (n : Nat) (ho : o.op = .load ty x) (hg : o.guard = none) (hx : a.eval x = .pointer (some ⟨h,0,none⟩)) (hn : cs.length = n) (hr : rowIs P ty n = true)
 (k : wpList P ops Q rest (a.put o.dst (.agg cs.toArray)) w) : wpList P ops Q (o :: rest) a w:=list_value hg (exec_load b ty x n ho hx hn hr) k
theorem list_store {P : Program} {ops : Array Oper} {Q : Exit -> Act -> World -> Prop} {rest : List Oper} {o : Oper} {a : Act} {w : World} {h : Nat} {cs vs : List Value} (b : BoxC w h cs) (ty : TypeId) (x y : Operand) (n : Nat) (ho : o.op = .store ty x y) (hg : o.guard = none) (hx : a.eval x = .pointer (some ⟨h,0,none⟩)) (hy : a.eval y = .agg vs.toArray) (hn : cs.length = n) (hv : vs.length = n) (h1 : vs.all (·.oneCell') = true) (hr : rowIs P ty n = true)
 (k : wpList P ops Q rest (a.put o.dst undef) (w.setCells h 0 vs)) : wpList P ops Q (o :: rest) a w:=list_skip hg (exec_store b ty x y n ho hx hy hn hv h1 hr) k
theorem results_box {P : Program} {fn : Func} {tmps : Array Value} {w : World} {h : Nat} {cs : List Value} {t : Tmp} {ty : TypeId} {n : Nat} (b : BoxC w h cs) (hf : fn.results = #[.cell t ty]) (ht : tmps.getD t undef = .pointer (some ⟨h,0,none⟩)) (hn : cs.length = n) (hr : rowIs P ty n = true) :
 (results fn tmps).run P w = .ok (.agg cs.toArray) w:=by
 obtain ⟨d,hu,hd⟩:=rowIs_row hr
 have h1:=run_loadVar_mid (P:=P) w h 0 ty cs d b.range hu hd (by rw [hn];exact rowIs_size hr)
 have ht' : tmps[t]?.getD undef = .pointer (some ⟨h,0,none⟩):=by simpa using ht
 simp [results,hf,ht',asAddr,h1]
end Go.Proofs.YtbgoldeopmlbnaaGreatDoor
