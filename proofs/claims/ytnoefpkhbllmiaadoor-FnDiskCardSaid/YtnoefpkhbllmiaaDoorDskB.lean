/- Bytes that are put behind one another: '[]byte(s)', 'append(b, t...)' where b has no room, or is such a conversion. -/
import Derived.Deep.AppendSrc
import Derived.Deep.Upon
import Derived.Lib.ConvBytes
import Derived.Lib.SlBytesRow
import Derived.Lib.LazyBuf
import Derived.Laws.IdiomCopy
import Derived.Laws.AppendOwn
import Derived.Below
import Derived.Lib.Hide
namespace Go.Proofs.YtnoefpkhbllmiaaDoor
open Go.RowKit Go
/-- Bytes that can be read at a slice, in a block from base on, or nowhere. -/
def BS (w : World) (base : Nat) (a : Option Addr) (n c : Nat) (s : ByteArray) : Prop :=
  n = s.size ∧ n ≤ c ∧ ((a = none ∧ n = 0) ∨ ∃ g o, a = some ⟨g, o, none⟩ ∧ base ≤ g ∧ g < w.heap.size ∧ Lib.Bytes w g o s)
theorem BS.below {w w' : World} {base n c : Nat} {a : Option Addr} {s : ByteArray} (h : BS w base a n c s) (hb : Below w.heap.size w w') : BS w' base a n c s := by
  obtain ⟨h1, h2, h3⟩ := h
  refine ⟨h1, h2, h3.imp id ?_⟩
  rintro ⟨g, o, rfl, hg, hl, hc⟩
  exact ⟨g, o, rfl, hg, Nat.lt_of_lt_of_le hl hb.size, fun i hi => (hb.cell (p := ⟨g, o + i, none⟩) hl).trans (hc i hi)⟩
theorem BS.mono {w : World} {base base' n c : Nat} {a : Option Addr} {s : ByteArray} (h : BS w base a n c s) (hb : base' ≤ base) : BS w base' a n c s :=
  ⟨h.1, h.2.1, h.2.2.imp id (fun ⟨g, o, h1, h2, h3⟩ => ⟨g, o, h1, Nat.le_trans hb h2, h3⟩)⟩
theorem BS.cap {w : World} {base n c c' : Nat} {a : Option Addr} {s : ByteArray} (h : BS w base a n c s) (hc : n ≤ c') : BS w base a n c' s := ⟨h.1, hc, h.2.2⟩
theorem BS.other {w : World} {base n c : Nat} {a : Option Addr} {s : ByteArray} (h : BS w base a n c s) (p : Addr) (v : Value) (hne : ∀ g o, a = some ⟨g, o, none⟩ → g ≠ p.block) : BS (w.setCell p v) base a n c s := by
  refine ⟨h.1, h.2.1, h.2.2.imp id ?_⟩
  rintro ⟨g, o, rfl, hg, hl, hc⟩
  refine ⟨g, o, rfl, hg, by rw [World.size_setCell]; exact hl, fun i hi => ?_⟩
  rw [World.cell?_setCell_other _ _ _ _ (by intro h2; apply hne g o rfl; rw [h2])]
  exact hc i hi
theorem bytes_none {s : ByteArray} (h : s.size = 0) : s = ⟨#[]⟩ := by
  apply ByteArray.ext
  apply Array.eq_empty_of_size_eq_zero
  exact h
theorem BS.conv {P : Program} {w : World} {base n c : Nat} {a : Option Addr} {s : ByteArray} (src dst e : TypeId) (hs : P.underlying src = some (.slice e)) (he : P.underlying e = some (.int .u8)) (hd : P.underlying dst = some .string) (h : BS w base a n c s) :
    (convert src dst (.slice a n c)).run P w = .ok (.string s) w := by
  obtain ⟨rfl, h2, ⟨rfl, h0⟩ | ⟨g, o, rfl, _, _, hc⟩⟩ := h
  · rw [run_convert_bytes_nil w src e hs he _ _ dst hd, bytes_none h0]
    rfl
  · exact Lib.run_convert_whole w src e dst hs he hd g o s hc c
theorem byteCells_append (s t : ByteArray) : byteCells (s ++ t) = byteCells s ++ byteCells t := by
  unfold byteCells
  rw [← List.map_append]
  congr 1
theorem byteCells_get (s : ByteArray) (j : Nat) (h : j < s.size) : (byteCells s)[j]? = some (.int .u8 (s[j].toNat : Int)) := by
  unfold byteCells
  rw [List.getElem?_map, Go.Proofs.byte_at s j h]
  rfl
theorem bytes_of_cells {w : World} {g o : Nat} {s : ByteArray} (h : ∀ j u, (byteCells s)[j]? = some u → w.cell? ⟨g, o + j, none⟩ = some u) : Lib.Bytes w g o s :=
  fun i hi => h i _ (byteCells_get s i hi)
theorem cells_of_bytes {w : World} {g o : Nat} {s : ByteArray} (h : Lib.Bytes w g o s) (j : Nat) (u : Value) (hu : (byteCells s)[j]? = some u) : w.cell? ⟨g, o + j, none⟩ = some u := by
  have hj : j < s.size := by
    rcases Nat.lt_or_ge j s.size with h | h
    · exact h
    · rw [List.getElem?_eq_none (by rw [byteCells_length]; exact h)] at hu; cases hu
  rw [h j hj, ← hu, byteCells_get s j hj]
theorem byteCells_at {s : ByteArray} {j : Nat} {u : Value} (h : (byteCells s)[j]? = some u) : j < s.size := by
  rcases Nat.lt_or_ge j s.size with h2 | h2
  · exact h2
  · rw [List.getElem?_eq_none (by rw [byteCells_length]; exact h2)] at h; cases h
theorem bytes_left {w : World} {g o : Nat} {s t : ByteArray} (h : Lib.Bytes w g o (s ++ t)) : Lib.Bytes w g o s :=
  bytes_of_cells fun j u hu => cells_of_bytes h j u (by rw [byteCells_append, List.getElem?_append_left (by rw [byteCells_length]; exact byteCells_at hu)]; exact hu)
theorem bytes_right {w : World} {g o : Nat} {s t : ByteArray} (h : Lib.Bytes w g o (s ++ t)) : Lib.Bytes w g (o + s.size) t :=
  bytes_of_cells fun j u hu => by
    have := cells_of_bytes h (s.size + j) u (by rw [byteCells_append, List.getElem?_append_right (by rw [byteCells_length]; omega), byteCells_length, Nat.add_sub_cancel_left]; exact hu)
    rwa [← Nat.add_assoc] at this
theorem bytes_take {w : World} {g o : Nat} {t : ByteArray} (h : Lib.Bytes w g o t) (k : Nat) : Lib.Bytes w g o (t.extract 0 k) :=
  bytes_of_cells fun j u hu => cells_of_bytes h j u (by
    have hj := byteCells_at hu
    rw [ByteArray.size_extract] at hj
    unfold byteCells at hu ⊢
    rw [Lib.extract_data, List.drop_zero, List.getElem?_map, List.getElem?_take_of_lt (by omega), ← List.getElem?_map] at hu
    exact hu)
theorem BS.drew {w : World} {base n c : Nat} {a : Option Addr} {s : ByteArray} (h : BS w base a n c s) : BS w.drew base a n c s := h.below (Below.refl _ _).drew
theorem BS.take {w : World} {base n c : Nat} {a : Option Addr} {s : ByteArray} (h : BS w base a n c s) (k : Nat) (hk : k ≤ s.size) : BS w base a k k (s.extract 0 k) := by
  have hsz : (s.extract 0 k).size = k := by rw [ByteArray.size_extract]; omega
  refine ⟨hsz.symm, Nat.le_refl _, ?_⟩
  rcases h.2.2 with ⟨rfl, h0⟩ | ⟨g, o, rfl, hg, hl, hc⟩
  · exact .inl ⟨rfl, by have := h.1; omega⟩
  · exact .inr ⟨g, o, rfl, hg, hl, bytes_take hc k⟩
theorem byteCells_one (s : ByteArray) : ∀ u ∈ byteCells s, u.oneCell' = true := by
  intro u hu
  obtain ⟨_, _, rfl⟩ := List.mem_map.1 hu
  rfl
theorem BS.src {P : Program} {w : World} {base n c : Nat} {a : Option Addr} {s : ByteArray} {tx e' : TypeId} (hk : P.underlying tx = some (.slice e')) (h : BS w base a n c s) : Src P 1 tx (.slice a n c) n (byteCells s) w := by
  obtain ⟨rfl, h2, ⟨rfl, h0⟩ | ⟨g, o, rfl, _, _, hc⟩⟩ := h
  · rw [h0, show byteCells s = [] from List.eq_nil_of_length_eq_zero (by rw [byteCells_length]; exact h0)]
    exact Src.ofNil w hk c
  · exact Src.ofSlice w hk ⟨g, o, none⟩ s.size c (byteCells s) (by rw [byteCells_length, Nat.mul_one]) (fun j u hu => by rw [Addr.add_lit]; exact cells_of_bytes hc j u hu) (byteCells_one s)
theorem below_drew_alloc (w : World) (o : Obj) : Below w.heap.size w (w.drew.alloc o) := (Below.refl _ _).drew.alloc (Nat.le_refl _) o
theorem bytes_made (w : World) (s t : ByteArray) (e : TypeId) (z : Array Value) : Lib.Bytes (w.alloc (.cells ((byteCells s ++ byteCells t).toArray ++ z) e)) w.heap.size 0 (s ++ t) := by
  refine bytes_of_cells fun j u hu => ?_
  rw [byteCells_append] at hu
  rw [Nat.zero_add]
  have hj : j < (byteCells s ++ byteCells t).length := by
    rcases Nat.lt_or_ge j (byteCells s ++ byteCells t).length with h | h
    · exact h
    · rw [List.getElem?_eq_none h] at hu; cases hu
  have hh : (w.alloc (.cells ((byteCells s ++ byteCells t).toArray ++ z) e)).heap[w.heap.size]? = some (.cells ((byteCells s ++ byteCells t).toArray ++ z) e (0, 0)) := by show (w.heap.push _)[w.heap.size]? = _; simp
  simp only [World.cell?, hh]
  rw [Array.getElem?_append_left (by simpa using hj), List.getElem?_toArray]
  exact hu
/-- 'append(b, x...)' where b has no room. -/
theorem BS.append {P : Program} {w : World} {base n m : Nat} {a : Option Addr} {s : ByteArray} (tS tx ty e : TypeId) (i : TypeInfo) (ht : P.underlying tS = some (.slice e)) (hi : P.info? e = some i) (hz : i.zero = some (.int .u8 0)) (hsz : i.size = 1) (hby : i.bytes = 1)
    (h : BS w base a n n s) (x : Value) (t : ByteArray) (hs : Src P 1 tx x m (byteCells t) w) (hm : m = t.size) (hb : base ≤ w.heap.size) (hn : n + m ≤ 10000000) :
    ∃ a' c' w', (Builtin.append_ #[tS, tx] ty #[.slice a n n, x]).run P w = .ok (.slice a' (n + m) c') w' ∧ BS w' base a' (n + m) c' (s ++ t) ∧ Below w.heap.size w w' ∧ (a' = a ∨ ∃ g, a' = some ⟨g, 0, none⟩ ∧ w.heap.size ≤ g) := by
  by_cases h0 : m = 0
  · have ht0 : t = ⟨#[]⟩ := bytes_none (hm.symm.trans h0)
    subst ht0
    have hs' : Src P i.size tx x 0 [] w := by rw [hsz]; rw [h0] at hs; exact hs
    refine ⟨a, n, w, ?_, ?_, Below.refl _ _, .inl rfl⟩
    · rw [h0]; exact run_append_nothing w tS tx ty e i ht hi a n n (Nat.le_refl _) x hs'
    · rw [h0, show s ++ (⟨#[]⟩ : ByteArray) = s from ByteArray.append_empty]; exact h
  · have hold : (Builtin.firstCells i.size n (.slice a n n)).run P w.drew = .ok (byteCells s).toArray w.drew := by
      rw [hsz]
      exact (BS.src (P := P) (tx := tS) ht h).cellsD
    have hr := run_append_grow_src w tS tx ty e i (.int .u8 0) ht hi hz a n n (byteCells s) hold x m (byteCells t) (by rw [hsz]; exact hs) (by omega) (by omega) (by rw [hby]; exact growslice_fits (by omega) (by omega))
    refine ⟨_, _, _, hr, ?_, below_drew_alloc _ _, .inr ⟨_, rfl, Nat.le_refl _⟩⟩
    refine ⟨by rw [ByteArray.size_append, h.1, hm], grownCap_ge w (n + m) n e, .inr ⟨w.heap.size, 0, rfl, hb, by simp, bytes_made w.drew s t e _⟩⟩
/-- 'append([]byte(s), t...)'. -/
theorem conv_append {P : Program} (w : World) (s t : ByteArray) (tS tx ty e : TypeId) (i : TypeInfo) (ht : P.underlying tS = some (.slice e)) (hk : P.underlying tx = some .string) (hi : P.info? e = some i) (hz : i.zero = some (.int .u8 0)) (hsz : i.size = 1) (hby : i.bytes = 1) (hn : s.size + t.size ≤ 10000000) :
    ∃ g c w', (Builtin.append_ #[tS, tx] ty #[.slice (some ⟨w.heap.size, 0, none⟩) s.size (grownCap w s.size 0 e), .string t]).run P (Lib.bytesWorld w e s) = .ok (.slice (some ⟨g, 0, none⟩) (s.size + t.size) c) w' ∧ s.size + t.size ≤ c ∧ w.heap.size ≤ g ∧ g < w'.heap.size ∧ Lib.Bytes w' g 0 (s ++ t) ∧ Below w.heap.size w w' := by
  have hB : Below w.heap.size w (Lib.bytesWorld w e s) := ⟨rfl, rfl, rfl, by rw [Lib.bytesWorld_size]; omega, fun k hk => Lib.bytesWorld_at_old w e s k hk⟩
  have hbs : Lib.Bytes (Lib.bytesWorld w e s) w.heap.size 0 s := fun j hj => by
    rw [Nat.zero_add, Lib.bytesWorld_cell w e s j hj, List.getD_eq_getElem?_getD, Go.Proofs.byte_at s j hj]
    rfl
  have hsz2 : (Lib.bytesCells w e s).size = grownCap w s.size 0 e := by
    have := grownCap_ge w s.size 0 e
    simp [Lib.bytesCells]
    omega
  have hat := Lib.bytesWorld_at_new w e s
  by_cases hroom : s.size + t.size ≤ grownCap w s.size 0 e
  · have hc : ∀ j, j < (byteCells t).length → ((Lib.bytesWorld w e s).cell? ⟨w.heap.size, 0 + s.size * i.size + j, none⟩).isSome = true := fun j hj => by
      rw [byteCells_length] at hj
      rw [hsz, Nat.mul_one, Nat.zero_add]
      simp only [World.cell?, hat]
      rw [Array.getElem?_eq_getElem (by omega)]
      rfl
    have hf : ∀ j, j < (byteCells t).length → (Lib.bytesWorld w e s).frozen? ⟨w.heap.size, 0 + s.size * i.size + j, none⟩ = false := fun j hj => by
      rw [byteCells_length] at hj
      rw [hsz, Nat.mul_one, Nat.zero_add]
      unfold World.frozen?
      simp only [hat]
      simp
      omega
    have hr := run_append_room_src (Lib.bytesWorld w e s) tS tx ty e i ht hi w.heap.size 0 s.size (grownCap w s.size 0 e) (.string t) t.size (byteCells t) (by rw [hsz]; exact Src.ofString _ hk t) hroom hc hf
    have hz3 : 0 + s.size * i.size = s.size := by rw [hsz]; omega
    rw [hz3] at hr hc
    refine ⟨w.heap.size, _, _, hr, hroom, Nat.le_refl _, ?_, ?_, below_setCells (Nat.le_refl _) _ _ _ hB⟩
    · have := (below_setCells (Nat.le_refl w.heap.size) (byteCells t) s.size (Lib.bytesWorld w e s) hB).size
      have h2 := (below_setCells (Nat.le_refl w.heap.size) (byteCells t) s.size (Lib.bytesWorld w e s) (Below.refl w.heap.size (Lib.bytesWorld w e s))).size
      rw [Lib.bytesWorld_size] at h2
      omega
    · refine bytes_of_cells fun j u hu => ?_
      rw [byteCells_append] at hu
      rw [Nat.zero_add]
      by_cases hj : j < s.size
      · rw [List.getElem?_append_left (by rw [byteCells_length]; exact hj)] at hu
        rw [World.cell?_setCells_out _ _ _ _ _ (fun _ _ => .inl hj)]
        have := cells_of_bytes hbs j u hu
        rwa [Nat.zero_add] at this
      · rw [List.getElem?_append_right (by rw [byteCells_length]; omega), byteCells_length] at hu
        have hj2 : j - s.size < (byteCells t).length := by
          rcases Nat.lt_or_ge (j - s.size) (byteCells t).length with h | h
          · exact h
          · rw [List.getElem?_eq_none h] at hu; cases hu
        have := World.cell?_setCells_in w.heap.size (byteCells t) s.size (Lib.bytesWorld w e s) hc (j - s.size) hj2
        rw [show s.size + (j - s.size) = j by omega] at this
        rw [this, ← hu, List.getElem?_eq_getElem hj2]
  · have hold : (Builtin.firstCells i.size s.size (.slice (some ⟨w.heap.size, 0, none⟩) s.size (grownCap w s.size 0 e))).run P (Lib.bytesWorld w e s).drew = .ok (byteCells s).toArray (Lib.bytesWorld w e s).drew := by
      rw [hsz]
      exact (BS.src (P := P) (tx := tS) (w := Lib.bytesWorld w e s) (base := 0) ht ⟨rfl, grownCap_ge w s.size 0 e, .inr ⟨_, _, rfl, Nat.zero_le _, by rw [Lib.bytesWorld_size]; omega, hbs⟩⟩).cellsD
    have hr := run_append_grow_src (Lib.bytesWorld w e s) tS tx ty e i (.int .u8 0) ht hi hz (some ⟨w.heap.size, 0, none⟩) s.size (grownCap w s.size 0 e) (byteCells s) hold (.string t) t.size (byteCells t) (by rw [hsz]; exact Src.ofString _ hk t) (by omega) (by omega) (by rw [hby]; exact growslice_fits (by omega) (by omega))
    refine ⟨_, _, _, hr, grownCap_ge _ _ _ _, by rw [Lib.bytesWorld_size]; omega, by simp, bytes_made (Lib.bytesWorld w e s).drew s t e _, hB.trans ((below_drew_alloc _ _).mono (by rw [Lib.bytesWorld_size]; omega))⟩
/-- An 'append' whose answer is known, in a stretch that is walked in order. -/
theorem app_wl {P : Program} {w w' : World} {ops : Array Oper} {rest : List Oper} {o : Oper} {a : Act} {Q : Exit → Act → World → Prop} (hgd : o.guard = none) (s x : Operand) (t u ty : TypeId)
    (hop : o.op = .call { callee := .builtin .append, args := #[s, x], argTypes := #[t, u] }) (hty : o.type = ty) (v1 v2 v' : Value) (hs : a.eval s = v1) (hx : a.eval x = v2)
    (he : (Builtin.append_ #[t, u] ty #[v1, v2]).run P w = .ok v' w') (h : wpList P ops Q rest (a.put o.dst v') w') : wpList P ops Q (o :: rest) a w := by
  refine wpList_plain hgd fun K' hK' => ?_
  unfold Oper.wp execOp
  simp only [hop, hty, resolve, invoke, builtin, Sem.run_bind, Sem.run_pure, Result.andThen_ok, List.map_toArray, List.map_cons, List.map_nil, hs, hx, he]
  exact hK' _ _ h
end Go.Proofs.YtnoefpkhbllmiaaDoor
