/- The sorted keys of a map of items. -/
import Derived.Test.YtnoefpkhbllmiaaGreatKeys
import Derived.Test.YtnoefpkhbllmiaaGreatBkM
import Derived.Test.YtnoefpkhbllmiaaGreatAppZ
namespace Go.Proofs.YtnoefpkhbllmiaaGreat
open Go.RowKit Go.PlainAid G IRow
open Go.Maps Go.Sort Go.Shelf
set_option linter.unusedVariables false
theorem sortsK (m : Nat) : AnyZ.SortsIn Tryz.prog LTryz.sorted67_ren Fence.wide m :=
  ⟨fun blk off cap ss W hH hblk hsz => callsIn_wide.2 (AnyM.slices_Sort_string LTryz.sort73 blk off cap ss W hH hblk hsz),
   fun p cap W => callsIn_wide.2 (AnyM.slices_Sort_string_none LTryz.sort73 p cap W)⟩
theorem keysOf_any (mb : Option Nat) (W : World) : Calls Tryz.prog 68 #[.map mb] W fun e w' => e = .returned (.func (.func 74) #[] #[.pointer (some ⟨W.heap.size, 0, none⟩)]) ∧ w' = W.alloc (.cells #[.map mb] 100) :=
  (callsIn_wide (n := 5)).1 (AnyZ.keys_in LTryz.keys68 Fence.wide 5 trivial rfl mb W)
theorem flat_names : ∀ is : List Im, (is.map (fun y => y.nm.data.toList)).map Go.Proofs.encStr = stE.flat (is.map Im.nm)
  | [] => rfl
  | x :: r => by
    have ih := flat_names r
    simp only [List.map_cons, ih]
    show _ = [Value.string x.nm] ++ stE.flat (r.map Im.nm)
    simp [encStr]
set_option maxHeartbeats 1000000 in
theorem sortedKeys_any {b nn : Nat} {is : List Im} (w : World) (hown : w.ownsMap Tryz.prog 9 imR b nn (mapI is)) (hr : RiseI is) (hl : is.length ≤ 1048576) :
    Calls Tryz.prog 67 #[.func (.func 74) #[] #[.pointer (some ⟨w.heap.size, 0, none⟩)]] (w.alloc (.cells #[.map (some b)] 100)) fun e w' => ∃ v, e = .returned v ∧ w'.ownsRow w.heap.size 9 stE.k v is.length (stE.flat (is.map Im.nm)) ∧ Below w.heap.size w w' := by
  have hbl := hown.lt
  have hsz : Maps.size (mapI is) = is.length := size_mapI is
  have hmax : Maps.size (mapI is) ≤ maxLen := by rw [hsz]; unfold maxLen; omega
  have hbytes : Maps.size (mapI is) * 16 ≤ 140737488355328 := by rw [hsz]; omega
  have hseq : SeqGives Fence.wide 2 Tryz.prog 74 #[.pointer (some ⟨w.heap.size, 0, none⟩)] encStr (fun ss => ss.Perm (strKeys (mapI is))) (Maps.size (mapI is)) (w.alloc (.cells #[.map (some b)] 100)) :=
    AnyZ.keys_gives (ρ := LTryz.keys68_ren) { LTryz.keys68 with } Fence.wide _ trivial rfl (by omega) w.heap.size b nn (mapI is) _ (by simp) (by simp) (by
      obtain ⟨es, clock, hb, Ft, hs, hD⟩ := hown
      exact ⟨es, clock, (Below.heap_alloc _ _ b hbl).trans hb, Ft, hs, hD⟩)
  refine Calls.mono ((callsIn_wide (n := 5)).1 (AnyZ.sorted_in LTryz.sorted67 Fence.wide 5 trivial trivial trivial trivial rfl (by omega) (sortsK _) (enters_of Tryz.func73 (by kernel_rfl) rfl) 74 #[.pointer (some ⟨w.heap.size, 0, none⟩)] trivial (enters_of Tryz.func74 (by kernel_rfl) rfl) _ _ hmax hbytes _ hseq)) ?_
  rintro e w' ⟨v, ss, rfl, hS, hrow, hnil, hb⟩
  have hs := sorted_mapI hr hS
  have hlen : ss.length = is.length := by have := hS.length_eq; rw [keys_mapI, List.length_map] at this; exact this
  refine ⟨v, rfl, ?_, ((Below.refl _ w).alloc (Nat.le_refl _) _).trans (hb.mono (by simp))⟩
  have h2 : (ss.mergeSort (fun x y => decide (x ≤ y))).map encStr = stE.flat (is.map Im.nm) := by
    rw [show ss.mergeSort (fun x y => decide (x ≤ y)) = _ from hs, flat_names]
  rw [h2, hlen] at hrow
  exact own_mono hrow (by simp)
end Go.Proofs.YtnoefpkhbllmiaaGreat
