/- Texts put together: what the law uses of them. -/
import Derived.Test.YtidcpdfhnhfelaaGreatDoorQRpl03
import Derived.Test.YtidcpdfhnhfelaaGreatDoorQRpl00
/- Rows of structs: what is of no struct. -/
namespace Go.Proofs.YtidcpdfhnhfelaaGreatDoor
open Go.RowKit Go.PlainAid G MGF IRow
set_option linter.unusedVariables false
/-- A cell of a row of structs, set: the list that the row holds then. -/
theorem flat_setX {α : Type} (E : Enc α) (d : α) (ps : List α) (i j : Nat) (v : Value) (p' : α) (hi : i < ps.length) (hj : j < E.k) (hc : (E.cells (ps.getD i d)).set j v = E.cells p') : (E.flat ps).set (i * E.k + j) v = E.flat (ps.set i p') := by
  induction ps generalizing i with
  | nil => exact absurd hi (Nat.not_lt_zero _)
  | cons p ps ih =>
    cases i with
    | zero =>
      rw [List.getD_cons_zero] at hc
      simp only [Enc.flat, Nat.zero_mul, Nat.zero_add, List.set_cons_zero]
      rw [List.set_append_left _ _ (by rw [E.len]; exact hj), hc]
    | succ i =>
      rw [List.getD_cons_succ] at hc
      have := ih i (by simpa using hi) hc
      simp only [Enc.flat, List.set_cons_succ]
      rw [List.set_append_right _ _ (by rw [E.len, Nat.succ_mul]; omega), E.len, ← this]
      congr 2
      rw [Nat.succ_mul]; omega
/-- A struct in a block of its own, by its cells. -/
structure BoxC (w : World) (h : Nat) (cs : List Value) : Prop where
  lt : h < w.heap.size
  cell : ∀ j v, cs[j]? = some v → w.cell? ⟨h, j, none⟩ = some v
  free : ∀ j, w.frozen? ⟨h, j, none⟩ = false
theorem BoxC.made (w : World) (cs : Array Value) (e : TypeId) : BoxC (w.alloc (.cells cs e)) w.heap.size cs.toList := by
  have hh : (w.alloc (.cells cs e)).heap[w.heap.size]? = some (.cells cs e (0, 0)) := by show (w.heap.push _)[w.heap.size]? = _; simp
  refine ⟨by rw [World.size_alloc]; omega, fun j v hv => ?_, fun j => ?_⟩
  · rw [cell_of_row _ _ j _ _ _ hh]
    simpa using hv
  · unfold World.frozen?
    simp only [hh]
    simp
theorem BoxC.below {w w' : World} {h : Nat} {cs : List Value} (b : BoxC w h cs) (hb : Below w.heap.size w w') : BoxC w' h cs :=
  ⟨Nat.lt_of_lt_of_le b.lt hb.size, fun j v hv => (hb.cell (p := ⟨h, j, none⟩) b.lt).trans (b.cell j v hv), fun j => (hb.frozen (p := ⟨h, j, none⟩) b.lt).trans (b.free j)⟩
theorem BoxC.alloc {w : World} {h : Nat} {cs : List Value} (b : BoxC w h cs) (o : Obj) : BoxC (w.alloc o) h cs := b.below ((Below.refl _ _).alloc (Nat.le_refl _) _)
theorem BoxC.drew {w : World} {h : Nat} {cs : List Value} (b : BoxC w h cs) : BoxC w.drew h cs := ⟨b.lt, b.cell, b.free⟩
theorem BoxC.set {w : World} {h : Nat} {cs : List Value} (b : BoxC w h cs) {j : Nat} (hj : j < cs.length) (u : Value) : BoxC (w.setCell ⟨h, j, none⟩ u) h (cs.set j u) := by
  refine ⟨by rw [World.size_setCell]; exact b.lt, fun i v hv => ?_, fun i => by rw [World.frozen?_setCell]; exact b.free i⟩
  by_cases hij : j = i
  · subst hij
    rw [List.getElem?_set_self hj] at hv
    cases hv
    exact World.cell?_setCell_same _ _ _ (b.cell j _ (List.getElem?_eq_getElem hj))
  · rw [List.getElem?_set_ne hij] at hv
    rw [World.cell?_setCell_other _ _ _ _ (by intro h2; simp_all)]
    exact b.cell i v hv
theorem BoxC.other {w : World} {h : Nat} {cs : List Value} (b : BoxC w h cs) (p : Addr) (u : Value) (hp : p.block ≠ h) : BoxC (w.setCell p u) h cs := by
  refine ⟨by rw [World.size_setCell]; exact b.lt, fun i v hv => ?_, fun i => by rw [World.frozen?_setCell]; exact b.free i⟩
  rw [World.cell?_setCell_other _ _ _ _ (by intro h2; apply hp; rw [h2])]
  exact b.cell i v hv
theorem BoxC.grown {w w' : World} {h : Nat} {cs : List Value} {row : Option Nat} (b : BoxC w h cs) (hg : w.grownBy w' row) (hr : some h ≠ row) : BoxC w' h cs := by
  have hblk := hg.block h b.lt hr
  refine ⟨Nat.lt_of_lt_of_le b.lt hg.size, fun j v hv => (World.cell?_of_block (a := ⟨h, j, none⟩) hblk).trans (b.cell j v hv), fun j => ?_⟩
  have := b.free j
  unfold World.frozen? at this ⊢
  dsimp only at this ⊢
  rw [hblk]
  exact this
/-- 'append(s, l...)' of rows of structs, s the call's own. -/
theorem run_append_rows {α : Type} (E : Enc α) (d : α) {P : Program} {w : World} {o : Oper} {a : Act} (s x : Operand) (t : TypeId)
    (ho : o.op = .call { callee := .builtin .append, args := #[s, x], argTypes := #[t, t] })
    (e : TypeId) (i : TypeInfo) (z : Value) (bytes : Nat) (ht : P.underlying t = some (.slice e)) (hi : P.info? e = some i) (hz : i.zero = some z) (hsize : i.size = E.k) (hby : i.bytes = bytes) (hzs : z.cells.size = E.k) (hk : 0 < E.k) (hbb : bytes ≤ 1024)
    (B : Nat) (v : Value) (n : Nat) (ps : List α) (hs : a.eval s = v) (hown : w.ownsRow B e E.k v n (E.flat ps)) (ao : Option Addr) (m c : Nat) (qs : List α) (hx : a.eval x = .slice ao m c) (hr : SR E d w ao m c qs) (hB : B ≤ w.heap.size) (hn : n ≤ 1048576) (hm : m ≤ 1048576) :
    ∃ v' w', (execOp a.eval o).run P w = .ok (.value v') w' ∧ w'.ownsRow B e E.k v' (n + m) (E.flat (ps ++ qs)) ∧ w.grownBy w' v.ownBlock := by
  cases ao with
  | none =>
    have hc := hr.nil rfl
    have hm0 : m = 0 := by have := hr.le; omega
    subst hc hm0
    have hq : qs = [] := List.eq_nil_of_length_eq_zero hr.len
    subst hq
    refine ⟨v, w, ?_, by simpa using hown, World.grownBy.refl _ _⟩
    have h1 := run_append_owned_none (P := P) (w := w) (base := B) t o.type e i E.k ht hi v n (E.flat ps) hown
    unfold execOp
    simp only [ho, resolve, invoke, builtin, Sem.run_bind, Sem.run_pure, Result.andThen_ok, List.map_toArray, List.map_cons, List.map_nil, hs, hx, h1]
  | some ad =>
    obtain ⟨v', w', h1, h2, h3, _⟩ := run_append_own (P := P) w B t o.type e i z E.k bytes ht hi hz hsize hby hzs hk v n (E.flat ps) hown ad m c (E.flat qs) (by rw [E.flat_length, hr.len]) (hr.news ad rfl) (E.flat_one qs) (by unfold maxLen; omega)
      (by have : (n + m) * bytes ≤ 2097152 * 1024 := Nat.mul_le_mul (by omega) hbb
          omega) hB
    refine ⟨v', w', ?_, by rw [E.flat_append]; exact h2, h3⟩
    unfold execOp
    simp only [ho, resolve, invoke, builtin, Sem.run_bind, Sem.run_pure, Result.andThen_ok, List.map_toArray, List.map_cons, List.map_nil, hs, hx, h1]
def mixX {α : Type} (zs ys : List α) (k : Nat) : List α := zs.take k ++ ys.drop k
theorem mixX_zero {α : Type} (zs ys : List α) : mixX zs ys 0 = ys := by simp [mixX]
theorem mixX_all {α : Type} {zs ys : List α} (h : ys.length = zs.length) : mixX zs ys zs.length = zs := by unfold mixX; rw [List.take_length, List.drop_eq_nil_of_le (by omega), List.append_nil]
theorem mixX_length {α : Type} {zs ys : List α} (h : ys.length = zs.length) (k : Nat) : (mixX zs ys k).length = zs.length := by simp [mixX]; omega
theorem mixX_set {α : Type} (d : α) {zs ys : List α} {k : Nat} (h : ys.length = zs.length) (hk : k < zs.length) : (mixX zs ys k).set k (zs.getD k d) = mixX zs ys (k + 1) := by
  unfold mixX
  rw [List.set_append_right _ _ (by simp; omega)]
  have e1 : k - (zs.take k).length = 0 := by simp; omega
  rw [e1, List.drop_eq_getElem_cons (show k < ys.length by omega), List.set_cons_zero]
  have e2 : zs.getD k d = zs[k] := by simp [List.getD, List.getElem?_eq_getElem hk]
  have e3 : zs.take (k + 1) = zs.take k ++ [zs[k]] := (List.take_append_getElem hk).symm
  rw [e2, e3, List.append_assoc]
  rfl
end Go.Proofs.YtidcpdfhnhfelaaGreatDoor

/- Rows of terms: an element by its cells; what the laws' own functions on such rows answer. -/
namespace Go.Proofs.YtidcpdfhnhfelaaGreatDoor
open Go.RowKit Go.PlainAid G MGF IRow
set_option linter.unusedVariables false
/-- A term. -/
structure Tm where
  no : Int
  lk : ByteArray
def tmD : Tm := ⟨0, ByteArray.empty⟩
/-- A term in memory. -/
def tmE : Enc Tm := ⟨2, fun e => [.int .i64 e.no, .string e.lk], fun _ => rfl, by intro x v hv; simp at hv; rcases hv with rfl | rfl <;> rfl⟩
theorem eqTerm_same (q0 : Int) (q1 : ByteArray) (w : World) :
    Calls Tryz.prog 79 #[.agg #[.int .i64 q0, .string q1], .agg #[.int .i64 q0, .string q1]] w fun e w' => e = .returned (.bool true) ∧ Below w.heap.size w w' := by
  go_enter Tryz.func79, Tryz.ntmps79
  go_wp2_with fail
  go_ret
  exact ⟨rfl, ((Below.refl _ _).alloc (Nat.le_refl _) _).alloc (by simp) _⟩
/-- A row of terms that can be read. -/
abbrev TmR (w : World) (a : Option Addr) (n cap : Nat) (l : List Tm) : Prop := SR tmE tmD w a n cap l
theorem TmR.at {w : World} {a : Option Addr} {n cap : Nat} {l : List Tm} (h : TmR w a n cap l) {i : Nat} (hi : i < n) : ∃ g o, a = some ⟨g, o, none⟩ ∧ g < w.heap.size ∧ w.cell? ⟨g, o + i * 2, none⟩ = some (.int .i64 (l.getD i tmD).no) ∧ w.cell? ⟨g, o + i * 2 + 1, none⟩ = some (.string (l.getD i tmD).lk) := by
  obtain ⟨g, o, ha, hg, hc⟩ := h.cells (by omega)
  exact ⟨g, o, ha, hg, hc i hi 0 _ rfl, hc i hi 1 _ rfl⟩
theorem TmR.own {w : World} {base n cap : Nat} {a : Option Addr} {e : TypeId} {l : List Tm} (h : w.ownsRow base e tmE.k (.slice a n cap) n (tmE.flat l)) : TmR w a n cap l := SR.own (by decide) h
theorem TmR.olen {w : World} {base n cap : Nat} {a : Option Addr} {e : TypeId} {l : List Tm} (h : w.ownsRow base e tmE.k (.slice a n cap) n (tmE.flat l)) : l.length = n := by
  have := h.1; rw [tmE.flat_length] at this; exact Nat.eq_of_mul_eq_mul_right (show 0 < tmE.k by decide) this
theorem infoTerm : (Tryz.prog.info? 106).map (fun i => (i.zero, i.size, i.bytes)) = some (some (.agg #[.int .i64 0, .string ByteArray.empty]), 2, 24) := by kernel_rfl
theorem TmR.set0 {w : World} {base g n cap : Nat} {e : TypeId} {ps : List Tm} (h : w.ownsRow base e tmE.k (.slice (some ⟨g, 0, none⟩) n cap) n (tmE.flat ps)) {i : Nat} (hi : i < n) (v : Int) :
    (w.setCell ⟨g, i * 2, none⟩ (.int .i64 v)).ownsRow base e tmE.k (.slice (some ⟨g, 0, none⟩) n cap) n (tmE.flat (ps.set i ⟨v, (ps.getD i tmD).lk⟩)) ∧ w.grownBy (w.setCell ⟨g, i * 2, none⟩ (.int .i64 v)) (some g) := by
  have hl := TmR.olen h
  obtain ⟨h1, g1⟩ := h.stored (i * 2) (.int .i64 v)
  have e1 : (tmE.flat ps).set (i * 2) (.int .i64 v) = tmE.flat (ps.set i ⟨v, (ps.getD i tmD).lk⟩) := flat_setX tmE tmD ps i 0 _ _ (by omega) (by decide) rfl
  rw [e1] at h1
  exact ⟨h1, g1⟩
theorem TmR.set1 {w : World} {base g n cap : Nat} {e : TypeId} {ps : List Tm} (h : w.ownsRow base e tmE.k (.slice (some ⟨g, 0, none⟩) n cap) n (tmE.flat ps)) {i : Nat} (hi : i < n) (v : ByteArray) :
    (w.setCell ⟨g, i * 2 + 1, none⟩ (.string v)).ownsRow base e tmE.k (.slice (some ⟨g, 0, none⟩) n cap) n (tmE.flat (ps.set i ⟨(ps.getD i tmD).no, v⟩)) ∧ w.grownBy (w.setCell ⟨g, i * 2 + 1, none⟩ (.string v)) (some g) := by
  have hl := TmR.olen h
  obtain ⟨h1, g1⟩ := h.stored (i * 2 + 1) (.string v)
  have e1 : (tmE.flat ps).set (i * 2 + 1) (.string v) = tmE.flat (ps.set i ⟨(ps.getD i tmD).no, v⟩) := flat_setX tmE tmD ps i 1 _ _ (by omega) (by decide) rfl
  rw [e1] at h1
  exact ⟨h1, g1⟩
theorem TmR.stored {w : World} {base g n cap : Nat} {e : TypeId} {ps : List Tm} (h : w.ownsRow base e tmE.k (.slice (some ⟨g, 0, none⟩) n cap) n (tmE.flat ps)) {i : Nat} (hi : i < n) (q0 : Int) (q1 : ByteArray) :
    ((w.setCell ⟨g, i * 2, none⟩ (.int .i64 q0)).setCell ⟨g, i * 2 + 1, none⟩ (.string q1)).ownsRow base e tmE.k (.slice (some ⟨g, 0, none⟩) n cap) n (tmE.flat (ps.set i ⟨q0, q1⟩)) ∧ w.grownBy ((w.setCell ⟨g, i * 2, none⟩ (.int .i64 q0)).setCell ⟨g, i * 2 + 1, none⟩ (.string q1)) (some g) := by
  have hl := TmR.olen h
  have gd : ∀ (p q : Tm), ((ps.set i p).set i q) = ps.set i q := fun p q => by rw [List.set_set]
  have ge : ∀ p : Tm, (ps.set i p).getD i tmD = p := fun p => by simp [List.getD, show i < ps.length by omega]
  have h0 := TmR.set0 h hi q0
  have h1 := TmR.set1 h0.1 hi q1
  rw [gd, ge] at h1
  exact ⟨h1.1, (grown_trans h0.2 h1.2)⟩
set_option maxRecDepth 100000 in
set_option maxHeartbeats 1600000 in
theorem eqTermS_same (a b : Option Addr) (n cap cbp : Nat) (l : List Tm) (w : World) (h : TmR w a n cap l) (k : TmR w b n cbp l) (hn : n ≤ 1048576) :
    Calls Tryz.prog 32 #[.slice a n cap, .slice b n cbp] w fun e w' => e = .returned (.bool true) ∧ Below w.heap.size w w' := by
  go_enter Tryz.func32, Tryz.ntmps32
  go_wp2_with fail
  go_loopw [5] (fun i wr => ∃ j : Nat, j ≤ n ∧ i = .int .i64 j ∧ Below w.heap.size w wr) (fun i _ => n - (intOf i).toNat)
  case atStart => exact ⟨0, Nat.zero_le _, rfl, Below.refl _ _⟩
  case round =>
    obtain ⟨j, hj, rfl, hB⟩ := hrel
    have HB := Lib.hid hB.drew
    by_cases hlt : j < n
    · obtain ⟨g, o, rfl, hg, hc0, hc1⟩ := h.at hlt
      obtain ⟨g', o', rfl, hg', hd0, hd1⟩ := k.at hlt
      have a0 := (hB.cell (p := ⟨g, o + j * 2, none⟩) hg).trans hc0
      have a1 := (hB.cell (p := ⟨g, o + j * 2 + 1, none⟩) hg).trans hc1
      have b0 := (hB.cell (p := ⟨g', o' + j * 2, none⟩) hg').trans hd0
      have b1 := (hB.cell (p := ⟨g', o' + j * 2 + 1, none⟩) hg').trans hd1
      generalize (l.getD j tmD).no = q0 at *
      generalize (l.getD j tmD).lk = q1 at *
      clear hc0 hc1 hd0 hd1 h k hB
      go_wp2_with fail
      go_still_tail 8, (by kernel_rfl)
      change wpList _ _ _ _ _ wr.drew
      clear a0 a1 b0 b1
      generalize wr.drew = we at *
      go_wp2_with fail
      refine (eqTerm_same q0 q1 _).mono ?_
      rintro e w5 ⟨rfl, hb⟩
      have HB5 := Lib.hid (HB.out.trans (hb.mono HB.out.size))
      clear hb
      go_wp2_with fail
      go_roundw
      case rel => exact ⟨j + 1, by omega, by go_num, HB5.out⟩
      case measure => simp [intOf] <;> omega
    · obtain rfl : j = n := by omega
      have HB2 := Lib.hid hB
      clear h k hB
      go_wp2_with fail
      go_ret
      exact ⟨rfl, HB2.out⟩
/-- The j-th marks. -/
def mkTm (k j : Nat) : Tm := ⟨(k : Int) + 2 * (j : Int), mkt (k + 2 * j + 1)⟩
def marksTm (k n : Nat) : List Tm := (List.range n).map (mkTm k)
theorem marksTm_length (k n : Nat) : (marksTm k n).length = n := by simp [marksTm]
theorem marksTm_getD {k n j : Nat} (h : j < n) : (marksTm k n).getD j tmD = mkTm k j := by simp [marksTm, List.getD, h]
set_option maxRecDepth 100000 in
set_option maxHeartbeats 6400000 in
theorem markTermS_any (a : Option Addr) (base n cap : Nat) (zs : List Tm) (k0 : Nat) (w : World) (h : w.ownsRow base 106 tmE.k (.slice a n cap) n (tmE.flat zs)) (hn : n ≤ 1048576) (hk0 : 0 < k0) (hk1 : k0 ≤ 1099511627776) :
    Calls Tryz.prog 34 #[.slice a n cap, .int .i64 (k0 : Int)] w fun e w' => e = .returned (.int .i64 ((k0 : Int) + 2 * (n : Int))) ∧ w'.ownsRow base 106 tmE.k (.slice a n cap) n (tmE.flat (marksTm k0 n)) ∧ w.grownBy w' (Value.slice a n cap).ownBlock := by
  have hl := TmR.olen h
  have HML := Lib.hid (marksTm_length k0 n)
  have HZL := Lib.hid hl
  clear hl
  go_enter Tryz.func34, Tryz.ntmps34
  go_wp2_with fail
  go_loopw [1, 5] (fun k i wr => ∃ j : Nat, j ≤ n ∧ i = .int .i64 j ∧ k = .int .i64 ((k0 : Int) + 2 * (j : Int)) ∧ wr.ownsRow base 106 tmE.k (.slice a n cap) n (tmE.flat (mixX (marksTm k0 n) zs j)) ∧ w.grownBy wr (Value.slice a n cap).ownBlock) (fun _ i _ => n - (intOf i).toNat)
  case atStart => exact ⟨0, Nat.zero_le _, rfl, by simp, by rw [mixX_zero]; exact h, ⟨rfl, rfl, rfl, Nat.le_refl _, fun _ _ _ => rfl⟩⟩
  case round =>
    obtain ⟨j, hj, rfl, rfl, hown, hg⟩ := hrel
    by_cases hlt : j < n
    · obtain ⟨g, c, hv, _, hgl⟩ := hown.form (by omega)
      simp only [Value.slice.injEq] at hv
      obtain ⟨rfl, _, rfl⟩ := hv
      have HMT1 : Hid (∀ (r : Int) (u : World), r = (k0 : Int) + 2 * (j : Int) + 1 → Calls Tryz.prog 76 #[.int .i64 r] u fun e w' => e = .returned (.string (mkt (k0 + 2 * j + 1))) ∧ Below u.heap.size u w') := Lib.hid (fun r u hr => by
        have hm := markText_any (k0 + 2 * j + 1) (w := u) (by omega) (by omega)
        rwa [show ((k0 + 2 * j + 1 : Nat) : Int) = r by omega] at hm)
      have HST := Lib.hid (mixX_set tmD (zs := marksTm k0 n) (ys := zs) (k := j) (by rw [HML.out, HZL.out]) (by rw [HML.out]; exact hlt))
      rw [marksTm_getD hlt] at HST
      have HMJ : Hid (j < (mixX (marksTm k0 n) zs j).length) := Lib.hid (by rw [mixX_length (by rw [HML.out, HZL.out]), HML.out]; exact hlt)
      have gd : ∀ (ps : List Tm) (p q : Tm), ((ps.set j p).set j q) = ps.set j q := fun ps p q => by rw [List.set_set]
      have ge : ∀ p : Tm, ((mixX (marksTm k0 n) zs j).set j p).getD j tmD = p := fun p => by simp [List.getD, HMJ.out]
      have GD := Lib.hid gd
      have GE := Lib.hid ge
      clear gd ge h
      have HO0 := Lib.hid hown
      have HG0 := Lib.hid hg
      clear hown hg
      obtain ⟨g', o', hge, _, x0, x1⟩ := (TmR.own HO0.out).at hlt
      simp only [Option.some.injEq, Addr.mk.injEq, and_true] at hge
      obtain ⟨rfl, rfl⟩ := hge
      rw [Nat.zero_add] at x0 x1
      have y0 := HO0.out.frozenAt (j * 2)
      clear x1
      have s0 := TmR.set0 HO0.out hlt ((k0 : Int) + 2 * (j : Int))
      have HO1 := Lib.hid s0.1
      have HG1 := Lib.hid (grown_trans HG0.out s0.2)
      clear s0
      go_wp2_with fail
      clear x0 y0
      refine (HMT1.out _ _ (by omega)).mono ?_
      rintro e w5 ⟨rfl, hb⟩
      have hown5 := own_below HO1.out hb
      have hg5 := grown_trans HG1.out (fg_below hb)
      clear hb HO1 HG1
      obtain ⟨g', o', hge, _, x0, x1⟩ := (TmR.own hown5).at hlt
      simp only [Option.some.injEq, Addr.mk.injEq, and_true] at hge
      obtain ⟨rfl, rfl⟩ := hge
      rw [Nat.zero_add] at x0 x1
      have y1 := hown5.frozenAt (j * 2 + 1)
      clear x0
      have s1 := TmR.set1 hown5 hlt (mkt (k0 + 2 * j + 1))
      rw [GD.out, GE.out] at s1
      have HO2 := Lib.hid s1.1
      have HG2 := Lib.hid (grown_trans hg5 s1.2)
      clear s1
      clear hown5 hg5
      go_wp2_with fail
      go_roundw
      case rel => exact ⟨j + 1, by omega, by go_num, by go_num, by rw [← HST.out]; exact HO2.out, HG2.out⟩
      case measure => simp [intOf] <;> omega
    · obtain rfl : j = n := by omega
      have hm : mixX (marksTm k0 j) zs j = marksTm k0 j := by
        have := mixX_all (zs := marksTm k0 j) (ys := zs) (by rw [HML.out, HZL.out])
        rwa [HML.out] at this
      rw [hm] at hown
      have HO := Lib.hid hown
      have HG := Lib.hid hg
      clear hown hg hm h
      go_wp2_with fail
      go_ret
      exact ⟨rfl, HO.out, HG.out⟩
set_option maxRecDepth 100000 in
set_option maxHeartbeats 6400000 in
theorem heldTermS_any (a : Option Addr) (n cap k0 : Nat) (w : World) (h : TmR w a n cap (marksTm k0 n)) (hn : n ≤ 1048576) (hk0 : 0 < k0) (hk1 : k0 ≤ 1099511627776) :
    Calls Tryz.prog 36 #[.slice a n cap, .int .i64 (k0 : Int)] w fun e w' => e = .returned (.int .i64 ((k0 : Int) + 2 * (n : Int))) ∧ Below w.heap.size w w' := by
  go_enter Tryz.func36, Tryz.ntmps36
  go_wp2_with fail
  go_loopw [1, 5] (fun k i wr => ∃ j : Nat, j ≤ n ∧ i = .int .i64 j ∧ k = .int .i64 ((k0 : Int) + 2 * (j : Int)) ∧ Below w.heap.size w wr) (fun _ i _ => n - (intOf i).toNat)
  case atStart => exact ⟨0, Nat.zero_le _, rfl, by simp, Below.refl _ _⟩
  case round =>
    obtain ⟨j, hj, rfl, rfl, hB⟩ := hrel
    by_cases hlt : j < n
    · obtain ⟨g, o, rfl, hg, hc0, hc1⟩ := h.at hlt
      rw [marksTm_getD hlt] at hc0 hc1
      unfold mkTm at hc0 hc1
      dsimp only at hc0 hc1
      have HC : Hid (∀ u, Below w.heap.size w u → u.cell? ⟨g, o + j * 2, none⟩ = some (.int .i64 ((k0 : Int) + 2 * (j : Int))) ∧ u.cell? ⟨g, o + j * 2 + 1, none⟩ = some (.string (mkt (k0 + 2 * j + 1)))) := Lib.hid (fun u hb => ⟨(hb.cell (p := ⟨g, o + j * 2, none⟩) hg).trans hc0, (hb.cell (p := ⟨g, o + j * 2 + 1, none⟩) hg).trans hc1⟩)
      have HMT1 : Hid (∀ (r : Int) (u : World), r = (k0 : Int) + 2 * (j : Int) + 1 → Calls Tryz.prog 76 #[.int .i64 r] u fun e w' => e = .returned (.string (mkt (k0 + 2 * j + 1))) ∧ Below u.heap.size u w') := Lib.hid (fun r u hr => by
        have hm := markText_any (k0 + 2 * j + 1) (w := u) (by omega) (by omega)
        rwa [show ((k0 + 2 * j + 1 : Nat) : Int) = r by omega] at hm)
      generalize mkt (k0 + 2 * j + 1) = t1 at *
      clear hc0 hc1 h
      have hFn := hB
      obtain ⟨c0, c1⟩ := HC.out _ hFn
      clear c1
      go_wp2_with fail
      clear c0
      replace hFn := hFn.drew
      go_region_held3 (fun u => u.cell? ⟨g, o + j * 2 + 1, none⟩ = some (.string t1)) (exact (HC.out _ hFn).2)
        (first | (go_at_call 76; refine Calls.mono (HMT1.out _ _ rfl) ?_; rintro e w1 ⟨rfl, hb⟩; have hFn := hFn.trans (hb.mono hFn.size)))
      all_goals
        go_wp2_with fail
        go_roundw
        case rel => exact ⟨j + 1, by omega, by go_num, by go_num, hFn⟩
        case measure => simp [intOf] <;> omega
    · obtain rfl : j = n := by omega
      have HB := Lib.hid hB
      clear hB h
      go_wp2_with fail
      go_ret
      exact ⟨rfl, HB.out⟩
end Go.Proofs.YtidcpdfhnhfelaaGreatDoor

