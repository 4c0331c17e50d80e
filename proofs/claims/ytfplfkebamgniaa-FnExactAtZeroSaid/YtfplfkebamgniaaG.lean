/- General laws over any program that the walks use: rows of bytes of the call's own, and what they convert to. -/
import Derived.WalkKit
import Derived.Laws.BytesArg
import Derived.Lib.SmallJoins
import Derived.Lib.BufferWrite
import Derived.Laws.CopyOwn
namespace Go.Proofs.Ytfplfkebamgniaa.G
open Go.RowKit
theorem ret_bool {a b : Bool} (h : a = b) : Ending.returned (.bool a) = .returned (.bool b) := by rw [h]
theorem ret_int {k : IntKind} {a b : Int} (h : a = b) : Ending.returned (.int k a) = .returned (.int k b) := by rw [h]
theorem ret_string {a b : ByteArray} (h : a = b) : Ending.returned (.string a) = .returned (.string b) := by rw [h]
/-- Behind a call that only makes blocks: what was there reads as it did. -/
theorem bcell {W w1 : World} (hb : Below W.heap.size W w1) : (∀ b o, b < W.heap.size → w1.cell? ⟨b, o, none⟩ = W.cell? ⟨b, o, none⟩) ∧ (∀ b o, b < W.heap.size → w1.frozen? ⟨b, o, none⟩ = W.frozen? ⟨b, o, none⟩) :=
  ⟨fun b o h => hb.cell (p := ⟨b, o, none⟩) h, fun b o h => hb.frozen (p := ⟨b, o, none⟩) h⟩
section
variable {P : Program} {w : World}
/-- The bytes of a row of the call's own, as a string. -/
theorem conv_owned (src dst e : TypeId) (hs : P.underlying src = some (.slice e)) (he : P.underlying e = some (.int .u8)) (hd : P.underlying dst = some .string)
    (base : Nat) (v : Value) (n : Nat) (zs : List Int) (h : w.ownsRow base e 1 v n (zs.map (Value.int .u8))) :
    (convert src dst v).run P w = .ok (.string (strOfNums zs)) w := by
  have hl : zs.length = n := by have := h.1; simpa using this
  rcases Joins.ownsRow_forms h with ⟨rfl, rfl⟩ | ⟨g, cap, rfl⟩
  · have : zs = [] := List.eq_nil_of_length_eq_zero hl
    subst this
    rw [run_convert_bytes_nil (P := P) w src e hs he 0 0 dst hd]
    rfl
  · refine run_convert_bytes_arg (P := P) w src e hs he g 0 n cap zs hl (fun i hi => ?_) dst hd
    have hc := h.cells (g := g) rfl i (.int .u8 (zs.getD i 0)) (by
      rw [List.getElem?_map, List.getElem?_eq_getElem (by omega)]
      simp [List.getD, List.getElem?_eq_getElem (show i < zs.length by omega)])
    have e1 : (⟨g, 0, none⟩ : Addr).add i = ⟨g, 0 + i, none⟩ := by unfold Addr.add; split <;> simp_all
    rw [← e1]; exact hc
theorem below_grown {W w' : World} {base : Nat} {e : TypeId} {size : Nat} {v : Value} {n : Nat} {xs : List Value} {B : Nat} (h : Below B W w) (hg : w.grownBy w' v.ownBlock) (ho : w.ownsRow base e size v n xs) (hb : B ≤ base) (hB : B ≤ w.heap.size) : Below B W w' :=
  h.grown hg hB (fun k hk => Nat.le_trans hb (ho.lt k hk).1)
/-- The first bytes of a block, as a string. -/
theorem conv_block (src dst e t : TypeId) (hs : P.underlying src = some (.slice e)) (he : P.underlying e = some (.int .u8)) (hd : P.underlying dst = some .string)
    (g n cap : Nat) (zs : List Int) (fz : Nat × Nat) (hg : w.heap[g]? = some (.cells (zs.map (Value.int .u8)).toArray t fz)) (hn : zs.length = n) :
    (convert src dst (.slice (some ⟨g, 0, none⟩) n cap)).run P w = .ok (.string (strOfNums zs)) w := by
  refine run_convert_bytes_arg (P := P) w src e hs he g 0 n cap zs hn (fun i hi => ?_) dst hd
  rw [Nat.zero_add, cell_of_row w g i _ _ _ hg]
  simp [List.getD, List.getElem?_eq_getElem (show i < zs.length by omega)]
/-- 's = append(s, u)', u of one cell, s the call's own: what the walk goes on with. -/
theorem append_one {ops : Array Oper} {rest : List Oper} {o : Oper} {a : Act} {Q : Exit → Act → World → Prop} (hgd : o.guard = none) (s x : Operand) (t : TypeId)
    (ho : o.op = .call { callee := .builtin .append, args := #[s, x], argTypes := #[t, t] })
    (e : TypeId) (i : TypeInfo) (z : Value) (bytes : Nat) (ht : P.underlying t = some (.slice e)) (hi : P.info? e = some i) (hz : i.zero = some z)
    (hsize : i.size = 1) (hby : i.bytes = bytes) (hzs : z.cells.size = 1)
    (B : Nat) (W : World) (v : Value) (n : Nat) (xs : List Value) (hs : a.eval s = v) (hown : w.ownsRow B e 1 v n xs) (u : Value) (e' : TypeId) (hu : u.oneCell' = true)
    (hx : a.eval x = .slice (some ⟨w.heap.size, 0, none⟩) 1 1) (hbel : Below B W w) (hB : B ≤ w.heap.size)
    (h63 : n + 1 ≤ maxLen) (hbytes : (n + 1) * bytes ≤ 140737488355328)
    (h : ∀ v' w', w'.ownsRow B e 1 v' (n + 1) (xs ++ [u]) → Below B W w' → wpList P ops Q rest (a.put o.dst v') w') : wpList P ops Q (o :: rest) a (w.alloc (.cells #[u] e')) := by
  refine wpList_append_own _ hgd s x t ho B e i z 1 bytes ht hi hz hsize hby hzs (by decide) v n xs hs (hown.alloc _) ⟨w.heap.size, 0, none⟩ 1 1 [u] hx rfl ?_ ?_ h63 hbytes (by simp; omega) ?_
  · intro j y hj
    match j, hj with
    | 0, hj => simp at hj; subst hj; simp [Addr.add]
  · intro y hy; simp at hy; subst hy; exact hu
  · intro v' w' h1 h2 _
    exact h v' w' h1 ((hbel.alloc hB _).grown h2 (by simp; omega) (fun k hk => (hown.lt k hk).1))
/-- Where 's[k:]' of a row begins: at its end the address stays. -/
def cutAt (b o k cap : Nat) : Option Addr := some (if cap = k then ⟨b, o, none⟩ else ⟨b, o + k, none⟩)
theorem cutAt_lt {b o k cap : Nat} (h : k < cap) : cutAt b o k cap = some ⟨b, o + k, none⟩ := by unfold cutAt; rw [if_neg (by omega)]
theorem run_cut_from (W : World) (t e : TypeId) (ht : P.underlying t = some (.slice e)) (hz : ∀ w, (Go.sizeOf e).run P w = .ok 1 w) (b o len cap k : Nat) (hk : k ≤ len) :
    (Instr.slice t (.slice (some ⟨b, o, none⟩) len cap) (some (.int .i64 (k : Int))) none none).run P W = .ok (.slice (cutAt b o k cap) (len - k) (cap - k)) W := by
  have ht' : P.underlying t = some (.slice (P.elem t)) := by simp [Program.elem, ht]
  have he : P.elem t = e := by simp [Program.elem, ht]
  rw [run_slice_l W t _ _ _ ht' .i64 _ (by omega) (by omega), he, hz]
  unfold cutAt
  by_cases hc : cap = k
  · simp [Result.andThen, sliced, hc]
  · by_cases h0 : k = 0
    · subst h0
      simp [Result.andThen, sliced, Addr.add, hc]
    · simp [Result.andThen, sliced, Addr.add, hc, h0]
/-- 's[p:p+n]' of a text. -/
theorem run_cut_str (W : World) (t : TypeId) (h : P.underlying t = some .string) (s : ByteArray) (p n : Nat) (hpn : p + n ≤ s.size) :
    (Instr.slice t (.string s) (some (.int .i64 (p : Int))) (some (.int .i64 ((p : Int) + (n : Int)))) none).run P W = .ok (.string (s.extract p (p + n))) W := by
  rw [run_slice_string W t s .i64 .i64 _ _ h (by omega) (by omega) (by omega)]
  have e : ((p : Int) + (n : Int)).toNat = p + n := by omega
  rw [e]
  rfl
theorem size_cut (s : ByteArray) (p n : Nat) (hpn : p + n ≤ s.size) : (s.extract p (p + n)).size = n := by simp [ByteArray.size_extract]; omega
/-- The row behind a copy of a string's bytes into it. -/
def spl (cur : Array Value) (off : Nat) (p : ByteArray) : Array Value := (cur.toList.take off ++ (Lib.byteCells p.data.toList ++ cur.toList.drop (off + p.size))).toArray
/-- 'copy(d, s)' of a string, d in a row of the call's own: what the walk goes on with. -/
theorem copy_str {ops : Array Oper} {rest : List Oper} {o : Oper} {a : Act} {Q : Exit → Act → World → Prop} (hgd : o.guard = none) (d s : Operand) (dT sT : TypeId)
    (ho : o.op = .call { callee := .builtin .copy, args := #[d, s], argTypes := #[dT, sT] }) (elem : TypeId) (hu : P.underlying dT = some (.slice elem)) (hsz : (P.info? elem).map (·.size) = some 1)
    (dp : Option Addr) (dLen dCap : Nat) (hd : a.eval d = .slice dp dLen dCap) (p : ByteArray) (hs : a.eval s = .string p)
    (g off : Nat) (cur : Array Value) (t : TypeId) (hg : w.heap[g]? = some (.cells cur t (0, 0))) (hle : p.size ≤ dLen) (hpos : 0 < p.size → dp = some ⟨g, off, none⟩) (hfit : off + p.size ≤ cur.size)
    (B : Nat) (W : World) (hb : Below B W w) (hBg : B ≤ g)
    (h : ∀ w', Hid (w'.heap[g]? = some (.cells (spl cur off p) t (0, 0))) → Below B W w' → wpList P ops Q rest (a.put o.dst (.int .i64 (p.size : Int))) w') :
    wpList P ops Q (o :: rest) a w := by
  refine wpList_plain hgd fun K hK => ?_
  by_cases h0 : p.size = 0
  · have hrun := Lib.run_copy_empty_string (P := P) w dT sT o.type elem dp dLen dCap p hu (by rw [hsz]; rfl) h0
    unfold Oper.wp
    simp [execOp, ho, resolve, invoke, builtin, hd, hs, hrun, Result.andThen]
    have e : spl cur off p = cur := by
      have e1 : p.data.toList = [] := List.eq_nil_of_length_eq_zero (by simpa using h0)
      simp [spl, e1, h0, Lib.byteCells]
    have := hK _ _ (h w (show _ = _ by rw [e]; exact hg) hb)
    rw [h0] at this
    exact this
  · obtain rfl := hpos (by omega)
    have hrun := Lib.run_copy_row_string (P := P) w dT sT o.type elem g off dLen dCap p cur t hu hsz hg hle hfit
    unfold Oper.wp
    simp [execOp, ho, resolve, invoke, builtin, hd, hs, hrun, Result.andThen]
    exact hK _ _ (h (w.setRow g (spl cur off p)) (show _ = _ from setRow_heap w g cur (spl cur off p) t _ hg) (below_setRow hb hBg _))
end
end Go.Proofs.Ytfplfkebamgniaa.G
