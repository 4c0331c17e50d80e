/- What the model's sources of draws answer: texts; and how a source is made. -/
import Derived.Test.YtdgafigmgiepdaaDoorDraw2
namespace Go.Proofs.YtdgafigmgiepdaaDoor
open Go.RowKit G
set_option linter.unusedVariables false
section
variable {P : Program} {w : World}
/-- 's = append(s, u)', u of one cell, s the call's own: what the walk goes on with. -/
theorem append_one_g {ops : Array Oper} {rest : List Oper} {o : Oper} {a : Act} {Q : Exit → Act → World → Prop} (hgd : o.guard = none) (s x : Operand) (t : TypeId)
    (ho : o.op = .call { callee := .builtin .append, args := #[s, x], argTypes := #[t, t] })
    (e : TypeId) (i : TypeInfo) (z : Value) (bytes : Nat) (ht : P.underlying t = some (.slice e)) (hi : P.info? e = some i) (hz : i.zero = some z)
    (hsize : i.size = 1) (hby : i.bytes = bytes) (hzs : z.cells.size = 1)
    (B : Nat) (v : Value) (n : Nat) (xs : List Value) (hs : a.eval s = v) (hown : w.ownsRow B e 1 v n xs) (u : Value) (e' : TypeId) (hu : u.oneCell' = true)
    (hx : a.eval x = .slice (some ⟨w.heap.size, 0, none⟩) 1 1) (hB : B ≤ w.heap.size)
    (h63 : n + 1 ≤ maxLen) (hbytes : (n + 1) * bytes ≤ 140737488355328)
    (h : ∀ v' w', w'.ownsRow B e 1 v' (n + 1) (xs ++ [u]) → w.grownBy w' v.ownBlock → wpList P ops Q rest (a.put o.dst v') w') : wpList P ops Q (o :: rest) a (w.alloc (.cells #[u] e')) := by
  refine wpList_append_own _ hgd s x t ho B e i z 1 bytes ht hi hz hsize hby hzs (by decide) v n xs hs (hown.alloc _) ⟨w.heap.size, 0, none⟩ 1 1 [u] hx rfl ?_ ?_ h63 hbytes (by simp; omega) ?_
  · intro j y hj
    match j, hj with
    | 0, hj => simp at hj; subst hj; simp [Addr.add]
  · intro y hy; simp at hy; subst hy; exact hu
  · intro v' w' h1 h2 _
    exact h v' w' h1 (grownBy_trans (World.grownBy_alloc w _ _) h2)
end
set_option maxHeartbeats 1600000 in
theorem bytes_any (p : Nat) (n : Int) (w : World) (hS : Src w p) (hn : n ≤ 1000000) :
    Calls Tryd.prog 39 #[.pointer (some ⟨p, 0, none⟩), .int .i64 n] w fun e w' => ∃ x : ByteArray, e = .returned (.string x) ∧ (x.size : Int) ≤ max n 0 ∧ Drawn w w' p := by
  obtain ⟨cb, co, sl, sc, sa, hSC⟩ := hS
  have hp := hSC.lt
  have hcb := hSC.code
  obtain ⟨i0, hi, hz0, hz1, hz2⟩ := info_parts infoU8
  go_enter Tryd.func39, Tryd.ntmps39
  go_wp2_with fail
  go_loopw [5, 6] (fun v i wr => ∃ (zs : List Int), i = .int .i64 zs.length ∧ (zs.length : Int) ≤ max n 0 ∧ wr.ownsRow w.heap.size 5 1 v zs.length (zs.map (Value.int .u8)) ∧ SrcC wr p cb co sl sc sa ∧ w.grownBy wr (some p)) (fun _ i _ => n.toNat - (intOf i).toNat)
  case atStart => exact ⟨[], rfl, by simp; omega, World.ownsRow_made w #[] 0 (Nat.le_refl _) (by decide) rfl, hSC.kept (Below.heap_alloc _ _ _ hp) (fun h => Below.heap_alloc _ _ _ (hcb h)), World.grownBy_alloc _ _ _⟩
  case round =>
    obtain ⟨zs, rfl, hl, hown, hS1, hgr⟩ := hrel
    have hsz := hgr.size
    by_cases hlt : (zs.length : Int) < n
    · go_wp2_with fail
      refine (n_c p cb co sl sc sa 256 wr hS1 (by omega)).mono ?_
      rintro e w2 ⟨r, rfl, r0, r1, hS2, hg2, hz2'⟩
      have hr : r ≤ 255 := by omega
      clear r1
      have hown2 : w2.ownsRow w.heap.size 5 1 u5 zs.length (zs.map (Value.int .u8)) := hown.kept hg2 (Or.inr (fun h => by have := (hown.lt p h).1; omega))
      have HG2 : Hid (w.grownBy w2 (some p)) := grownBy_trans hgr hg2
      have HS2 := Lib.hid hS2
      have hlo := hown2.lt
      have HLO := Lib.hid hlo; clear hlo
      have hsz2 : w.heap.size ≤ w2.heap.size := by omega
      clear hown hgr hS1 hg2 hz2' hsz hS2
      go_wp2_with (at_builtin; refine append_one_g rfl (.tmp 13) (.tmp 17) 22 rfl 5 i0 (.int .u8 0) 1 Tryd.underlying22 hi hz0 hz1 hz2 rfl w.heap.size _ _ _ rfl hown2 (.int .u8 r) _ rfl rfl hsz2 (by unfold maxLen; omega) (by omega) ?_; intro v' w3 hown3 hg3; have hown4 : w3.ownsRow w.heap.size 5 1 v' (zs ++ [r]).length ((zs ++ [r]).map (Value.int .u8)) := (by simpa using hown3); have HG3 : Hid (w2.grownBy w3 u5.ownBlock) := hg3; clear hown3 hown2 hg3)
      go_roundw
      case rel =>
        refine ⟨zs ++ [r], by simp, by simp; omega, hown4, HS2.out.kept (HG3.out.block p (by omega) (fun h => by have := (HLO.out p h.symm).1; omega)) (fun h => HG3.out.block cb (by have := hcb h; omega) (fun h' => by have := (HLO.out cb h'.symm).1; have := hcb h; omega)), grown_own HG2.out HG3.out (fun g hg => (HLO.out g hg).1)⟩
      case measure => simp [intOf]; omega
    · have hcv := conv_owned 22 9 5 Tryd.underlying22 Tryd.underlying5 Tryd.underlying9 _ _ _ _ hown
      have HF : Hid (Drawn w wr p) := ⟨⟨cb, co, sl, sc, sa, hS1⟩, hgr⟩
      have HL := Lib.hid hl
      clear hown hgr hS1 hl
      go_wp2_with fail
      go_ret
      exact ⟨_, rfl, by rw [strOfNums_size]; exact HL.out, HF.out⟩
end Go.Proofs.YtdgafigmgiepdaaDoor
