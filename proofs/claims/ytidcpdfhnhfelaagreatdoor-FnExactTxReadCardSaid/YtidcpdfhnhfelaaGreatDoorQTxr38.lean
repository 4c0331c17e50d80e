/- Texts put together: what the law uses of them. -/
import Derived.Test.YtidcpdfhnhfelaaGreatDoorQTxr20
import Derived.Test.YtidcpdfhnhfelaaGreatDoorQTxr33
import Derived.Test.YtidcpdfhnhfelaaGreatDoorQTxr00
/- 'append(s, l...)' as one operation of a region that draws its order. -/
namespace Go.Proofs.YtidcpdfhnhfelaaGreatDoor
open Go.RowKit Go.PlainAid G IRow
set_option linter.unusedVariables false
/-- 'append(s, l...)' as one operation of a region that draws its order. -/
theorem append_opz {α : Type} (E : Enc α) (d : α) {P : Program} {ops : Array Oper} {md : Region.Mode} {S : World → Prop} {Q : Exit → Act → World → Prop} {i t k : Nat} {listed : Array Bool} {o : Oper} {a : Act} {w : World} (s x : Operand) (T : TypeId)
    (ho : ops[i]? = some o) (hg : o.guard = none) (hne : Nat.beq i t = false) (hop : o.op = .call { callee := .builtin .append, args := #[s, x], argTypes := #[T, T] })
    (e : TypeId) (ti : TypeInfo) (z : Value) (bytes : Nat) (ht : P.underlying T = some (.slice e)) (hi : P.info? e = some ti) (hz : ti.zero = some z) (hsize : ti.size = E.k) (hby : ti.bytes = bytes) (hzs : z.cells.size = E.k) (hk : 0 < E.k) (hbb : bytes ≤ 1024)
    (B : Nat) (v : Value) (n : Nat) (ps : List α) (hs : a.eval s = v) (hown : w.ownsRow B e E.k v n (E.flat ps)) (ao : Option Addr) (m c : Nat) (qs : List α) (hx : a.eval x = .slice ao m c) (hr : SR E d w ao m c qs) (hB : B ≤ w.heap.size) (hn : n ≤ 1048576) (hm : m ≤ 1048576)
    (h : ∀ v' w', w'.ownsRow B e E.k v' (n + m) (E.flat (ps ++ qs)) → w.grownBy w' v.ownBlock → S w' ∧ TillZ.wpZ P md ops S t Q k (listed.setIfInBounds i true) (a.put o.dst v') w') :
    TillZ.opZ P ops i (fun a' w' => (i = t → wpAny P md ops Q k (listed.setIfInBounds i true) a' w') ∧ (i ≠ t → S w' ∧ TillZ.wpZ P md ops S t Q k (listed.setIfInBounds i true) a' w')) a w := by
  obtain ⟨v', w', h1, h2, h3⟩ := run_append_rows E d (P := P) (w := w) (o := o) (a := a) s x T hop e ti z bytes ht hi hz hsize hby hzs hk hbb B v n ps hs hown ao m c qs hx hr hB hn hm
  obtain ⟨h4, h5⟩ := h v' w' h2 h3
  exact TillZ.opz ho hg hne h1 h4 h5
/-- 'append(s, l...)' of rows, at the operation, in a walk. -/
theorem append_wl {α : Type} (E : Enc α) (d : α) {P : Program} {w : World} {ops : Array Oper} {rest : List Oper} {o : Oper} {a : Act} {Q : Exit → Act → World → Prop} (hgd : o.guard = none) (s x : Operand) (T : TypeId)
    (hop : o.op = .call { callee := .builtin .append, args := #[s, x], argTypes := #[T, T] })
    (e : TypeId) (ti : TypeInfo) (z : Value) (bytes : Nat) (ht : P.underlying T = some (.slice e)) (hi : P.info? e = some ti) (hz : ti.zero = some z) (hsize : ti.size = E.k) (hby : ti.bytes = bytes) (hzs : z.cells.size = E.k) (hk : 0 < E.k) (hbb : bytes ≤ 1024)
    (B : Nat) (v : Value) (n : Nat) (ps : List α) (hs : a.eval s = v) (hown : w.ownsRow B e E.k v n (E.flat ps)) (ao : Option Addr) (m c : Nat) (qs : List α) (hx : a.eval x = .slice ao m c) (hr : SR E d w ao m c qs) (hB : B ≤ w.heap.size) (hn : n ≤ 1048576) (hm : m ≤ 1048576)
    (h : ∀ v' w', w'.ownsRow B e E.k v' (n + m) (E.flat (ps ++ qs)) → w.grownBy w' v.ownBlock → wpList P ops Q rest (a.put o.dst v') w') : wpList P ops Q (o :: rest) a w := by
  refine wpList_plain hgd fun K' hK' => ?_
  obtain ⟨v', w', h1, h2, h3⟩ := run_append_rows E d (P := P) (w := w) (o := o) (a := a) s x T hop e ti z bytes ht hi hz hsize hby hzs hk hbb B v n ps hs hown ao m c qs hx hr hB hn hm
  unfold Oper.wp
  rw [h1]
  exact hK' _ _ (h v' w' h2 h3)
theorem own_made0 {α : Type} (E : Enc α) (u : World) (e : TypeId) {base : Nat} (hb : base ≤ u.heap.size) : (u.alloc (.cells #[] e)).ownsRow base e E.k (.slice (some ⟨u.heap.size, 0, none⟩) 0 0) 0 (E.flat []) :=
  World.ownsRow_made u #[] 0 hb (by decide) (by simp)
end Go.Proofs.YtidcpdfhnhfelaaGreatDoor

