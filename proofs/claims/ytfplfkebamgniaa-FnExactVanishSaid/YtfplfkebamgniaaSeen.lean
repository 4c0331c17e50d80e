/- Which points, and which places, are right: the program's looks, by a list of what was seen. -/
import Derived.Test.YtfplfkebamgniaaSPoints2
import Derived.Test.YtfplfkebamgniaaFnField
import Derived.Test.YtfplfkebamgniaaPRow
namespace Go.Proofs.Ytfplfkebamgniaa
open Go.RowKit Go.PlainAid G MGF IRow
set_option linter.unusedVariables false
/-- A list of what was seen, in its block. -/
def Seen (w : World) (b : Nat) (S : Nat → Bool) : Prop := b < w.heap.size ∧ ∀ i, i < 256 → w.cell? ⟨b, i, none⟩ = some (.bool (S i)) ∧ w.frozen? ⟨b, i, none⟩ = false
theorem Seen.set {w : World} {b : Nat} {S : Nat → Bool} (h : Seen w b S) {i : Nat} (_ : i < 256) (T : Nat → Bool) (hT : ∀ j, j < 256 → T j = if j = i then true else S j) : Seen (w.setCell ⟨b, i, none⟩ (.bool true)) b T := by
  refine ⟨by simpa using h.1, fun j hj => ⟨?_, by rw [World.frozen?_setCell]; exact (h.2 j hj).2⟩⟩
  rw [hT j hj]
  by_cases e : j = i
  · subst e
    rw [World.cell?_setCell_same _ _ _ (h.2 j hj).1, if_pos rfl]
  · rw [World.cell?_setCell_other _ _ _ _ (fun h2 => e (by injection h2 with _ h3 _; exact h3.symm)), (h.2 j hj).1, if_neg e]
theorem Seen.below {w w' : World} {b : Nat} {S : Nat → Bool} (h : Seen w b S) (hb : Below w.heap.size w w') : Seen w' b S :=
  ⟨Nat.lt_of_lt_of_le h.1 hb.size, fun i hi => ⟨(hb.cell (p := ⟨b, i, none⟩) h.1).trans (h.2 i hi).1, (hb.frozen (p := ⟨b, i, none⟩) h.1).trans (h.2 i hi).2⟩⟩
theorem zero_seen : Try.zeroCells112.toList = List.replicate 256 (.bool false) := by kernel_rfl
theorem seen_new (w : World) : Seen (w.alloc (.cells Try.zeroCells112 112)) w.heap.size (fun _ => false) := by
  refine ⟨by rw [World.size_alloc]; omega, fun i hi => ⟨?_, World.frozen?_alloc_new w _ _ i⟩⟩
  rw [World.cell?_alloc_new w, ← Array.getElem?_toList, zero_seen, List.getElem?_replicate, if_pos hi]
set_option maxRecDepth 100000 in
set_option maxHeartbeats 1600000 in
theorem placesRight_any (a : Option Addr) (n cap : Nat) (zs : List Int) (w : World) (h : IR w a n cap zs) (hn : n ≤ 1048576) :
    Calls Try.prog 84 #[.slice a n cap] w fun e w' => e = .returned (.bool (xsB zs 20)) ∧ Below w.heap.size w w' := by
  have hl := h.len
  by_cases h20 : 20 < n
  · have HF : Hid (false = xsB zs 20) := Lib.hid (by unfold xsB; rw [decide_eq_false (by omega), Bool.false_and])
    clear h
    go_enter Try.func84, Try.ntmps84
    go_wp2_with fail
    go_ret
    exact ⟨ret_bool HF.out, Below.refl _ _⟩
  · go_enter Try.func84, Try.ntmps84
    go_wp2_with fail
    go_loopw [11] (fun i wr => ∃ j : Nat, j ≤ n ∧ i = .int .i64 j ∧ (∀ t, t < j → okX (zs.getD t 0) = true) ∧ (zs.take j).Nodup ∧ Seen wr w.heap.size (fun v => decide ((v : Int) ∈ zs.take j)) ∧ Below w.heap.size w wr) (fun i _ => n - (intOf i).toNat)
    case atStart => exact ⟨0, Nat.zero_le _, rfl, fun t ht => by omega, by simp, by simpa using seen_new w, (Below.refl _ _).alloc (Nat.le_refl _) _⟩
    case round =>
      obtain ⟨j, hj, rfl, hok, hnd, hS, hB⟩ := hrel
      have HOK := Lib.hid hok
      have HND := Lib.hid hnd
      clear hok hnd
      by_cases hlt : j < n
      · obtain ⟨g, o, rfl, hg, hc⟩ := h.cells (by omega)
        have hck := (hB.cell (p := ⟨g, o + j, none⟩) hg).trans (hc j hlt)
        have HBD : Hid (okX (zs.getD j 0) = false → false = xsB zs 20) := Lib.hid (fun h2 => by
          unfold xsB
          rw [not_all1 (by omega) h2]
          simp)
        have HDP : Hid (zs.getD j 0 ∈ zs.take j → false = xsB zs 20) := Lib.hid (fun h2 => by
          obtain ⟨k, hk, hkk⟩ := List.getElem_of_mem h2
          have hk2 : k < j := by rw [List.length_take] at hk; omega
          have hkz : zs.getD k 0 = zs.getD j 0 := by
            rw [← hkk, List.getElem_take, List.getD_eq_getElem?_getD, List.getElem?_eq_getElem (by omega)]
            rfl
          unfold xsB
          rw [decide_eq_false (not_nodup1 (by omega) hk2 hkz)]
          simp)
        have HNX : Hid (okX (zs.getD j 0) = true → ¬ zs.getD j 0 ∈ zs.take j → (∀ t, t < j + 1 → okX (zs.getD t 0) = true) ∧ (zs.take (j + 1)).Nodup) := Lib.hid (fun h2 h3 => by
          refine ⟨fun t ht => ?_, nodup_take1 (by omega) HND.out (fun k hk e => h3 ?_)⟩
          · by_cases htj : t = j
            · rw [htj]; exact h2
            · exact HOK.out t (by omega)
          · rw [← e]
            have : zs.getD k 0 = (zs.take j).getD k 0 := by simp [List.getD, hk]
            rw [this, getD_mem _ (by rw [List.length_take]; omega)]
            exact List.getElem_mem _)
        have HTK := Lib.hid (take_getD (zs := zs) (j := j) (by omega))
        generalize zs.getD j 0 = z at *
        clear hc h
        by_cases hb : 0 ≤ z ∧ z ≤ 255
        · by_cases h0 : z = 0
          · subst h0
            have HF := Lib.hid (HBD.out rfl)
            have hbt : byteB 0 = true := rfl
            clear hS
            go_wp2_with fail
            refine (isByte_any 0 _).mono ?_
            rintro e w1 ⟨rfl, rfl⟩
            rw [hbt]
            go_wp2_with fail
            go_ret
            exact ⟨ret_bool HF.out, hB⟩
          · obtain ⟨v, rfl⟩ := Int.eq_ofNat_of_zero_le hb.1
            have hv : v < 256 := by omega
            have hvb : ((v : Int) == 0) = false := by rw [beq_eq_false_iff_ne]; exact h0
            have hbt : byteB (v : Int) = true := byteB_yes hb.1 hb.2
            obtain ⟨hcs, hfs⟩ := hS.2 v hv
            dsimp only at hcs
            by_cases hsn : (v : Int) ∈ zs.take j
            · rw [decide_eq_true hsn] at hcs
              have HF := Lib.hid (HDP.out hsn)
              clear hS hsn
              go_wp2_with fail
              refine (isByte_any _ _).mono ?_
              rintro e w1 ⟨rfl, rfl⟩
              rw [hbt]
              go_wp2_with fail
              go_ret
              exact ⟨ret_bool HF.out, hB⟩
            · rw [decide_eq_false hsn] at hcs
              have HF := Lib.hid (HNX.out (decide_eq_true (by omega)) hsn)
              have HSS := Lib.hid (hS.set hv (fun u => decide ((u : Int) ∈ zs.take (j + 1))) (fun u hu => by
                rw [HTK.out]
                by_cases e : u = v
                · subst e
                  rw [if_pos rfl]
                  exact decide_eq_true (by simp)
                · rw [if_neg e]
                  have : ((u : Int) ∈ zs.take j ++ [(v : Int)]) ↔ (u : Int) ∈ zs.take j := by
                    simp only [List.mem_append, List.mem_singleton]
                    exact ⟨fun h => h.elim id (fun h => absurd (Int.ofNat.inj h) e), Or.inl⟩
                  simp only [this]))
              have HBB := Lib.hid (hB.setCell (p := ⟨w.heap.size, v, none⟩) (Nat.le_refl _) (.bool true))
              clear hS hsn hB
              go_wp2_with fail
              refine (isByte_any _ _).mono ?_
              rintro e w1 ⟨rfl, rfl⟩
              rw [hbt]
              go_wp2_with fail
              go_roundw
              case rel => exact ⟨j + 1, by omega, by go_num, HF.out.1, HF.out.2, HSS.out, HBB.out⟩
              case measure => simp [intOf]; omega
        · have HF := Lib.hid (HBD.out (decide_eq_false (by omega)))
          have hbt : byteB z = false := byteB_no hb
          clear hS
          go_wp2_with fail
          refine (isByte_any z _).mono ?_
          rintro e w1 ⟨rfl, rfl⟩
          rw [hbt]
          go_wp2_with fail
          go_ret
          exact ⟨ret_bool HF.out, hB⟩
      · obtain rfl : j = n := by omega
        have HF : Hid (true = xsB zs 20) := Lib.hid (by
          have h1 := HND.out
          rw [List.take_of_length_le (by omega)] at h1
          unfold xsB
          rw [decide_eq_true (by omega), all_of1 (fun t ht => HOK.out t (by omega)), decide_eq_true h1]
          rfl)
        clear hS h
        go_wp2_with fail
        go_ret
        exact ⟨ret_bool HF.out, hB⟩
set_option maxRecDepth 100000 in
set_option maxHeartbeats 1600000 in
theorem pointsRight_any (a : Option Addr) (n cap : Nat) (ps : List (Int × Int)) (w : World) (h : PR w a n cap ps) (hn : n ≤ 1048576) :
    Calls Try.prog 80 #[.slice a n cap] w fun e w' => e = .returned (.bool (pointsB ps)) ∧ Below w.heap.size w w' := by
  have hl := h.len
  by_cases h20 : 20 < n ∨ n < 1
  · have HF : Hid (false = pointsB ps) := Lib.hid (by
      unfold pointsB
      by_cases h1 : n < 1
      · rw [decide_eq_false (by omega), Bool.false_and]
      · rw [decide_eq_true (show 1 ≤ ps.length by omega), decide_eq_false (show ¬ ps.length ≤ 20 by omega)]; rfl)
    clear h
    by_cases h1 : n < 1
    · obtain rfl : n = 0 := by omega
      go_enter Try.func80, Try.ntmps80
      go_wp2_with fail
      go_ret
      exact ⟨ret_bool HF.out, Below.refl _ _⟩
    · have h2 : 20 < n := by omega
      have hn1 : ¬ ((n : Int) < 1) := by omega
      go_enter Try.func80, Try.ntmps80
      go_wp2_with fail
      go_ret
      exact ⟨ret_bool HF.out, Below.refl _ _⟩
  · have h1 : ¬ 20 < n := by omega
    have h2 : ¬ n < 1 := by omega
    go_enter Try.func80, Try.ntmps80
    go_wp2_with fail
    go_loopw [16] (fun i wr => ∃ j : Nat, j ≤ n ∧ i = .int .i64 j ∧ (∀ t, t < j → okP (ps.getD t (0, 0)) = true) ∧ ((ps.take j).map Prod.fst).Nodup ∧ Seen wr w.heap.size (fun v => decide ((v : Int) ∈ (ps.take j).map Prod.fst)) ∧ Below w.heap.size w wr) (fun i _ => n - (intOf i).toNat)
    case atStart => exact ⟨0, Nat.zero_le _, rfl, fun t ht => by omega, by simp, by simpa using seen_new w, (Below.refl _ _).alloc (Nat.le_refl _) _⟩
    case round =>
      obtain ⟨j, hj, rfl, hok, hnd, hS, hB⟩ := hrel
      have HOK := Lib.hid hok
      have HND := Lib.hid hnd
      clear hok hnd
      by_cases hlt : j < n
      · obtain ⟨g, o, rfl, hg, hc⟩ := h.cells (by omega)
        have hck := (hB.cell (p := ⟨g, o + j * 2, none⟩) hg).trans (hc j hlt).1
        have hck2 := (hB.cell (p := ⟨g, o + j * 2 + 1, none⟩) hg).trans (hc j hlt).2
        have HBD : Hid (okP (ps.getD j (0, 0)) = false → false = pointsB ps) := Lib.hid (fun h2 => by
          unfold pointsB
          rw [not_all (by omega) h2]
          simp)
        have HDP : Hid ((ps.getD j (0, 0)).1 ∈ (ps.take j).map Prod.fst → false = pointsB ps) := Lib.hid (fun h2 => by
          obtain ⟨k, hk, hkk⟩ := List.getElem_of_mem h2
          have hk2 : k < j := by simp at hk; omega
          have hkz : (ps.getD k (0, 0)).1 = (ps.getD j (0, 0)).1 := by
            rw [← hkk, List.getElem_map, List.getElem_take, List.getD_eq_getElem?_getD, List.getElem?_eq_getElem (by omega)]
            rfl
          unfold pointsB
          rw [decide_eq_false (not_nodup (by omega) hk2 hkz)]
          simp)
        have HNX : Hid (okP (ps.getD j (0, 0)) = true → ¬ (ps.getD j (0, 0)).1 ∈ (ps.take j).map Prod.fst → (∀ t, t < j + 1 → okP (ps.getD t (0, 0)) = true) ∧ ((ps.take (j + 1)).map Prod.fst).Nodup) := Lib.hid (fun h2 h3 => by
          refine ⟨fun t ht => ?_, nodup_take (by omega) HND.out (fun k hk e => h3 ?_)⟩
          · by_cases htj : t = j
            · rw [htj]; exact h2
            · exact HOK.out t (by omega)
          · rw [← e]
            refine List.mem_map.2 ⟨ps.getD k (0, 0), ?_, rfl⟩
            have : ps.getD k (0, 0) = (ps.take j).getD k (0, 0) := by simp [List.getD, hk]
            rw [this, getD_mem _ (by rw [List.length_take]; omega)]
            exact List.getElem_mem _)
        have HTK : Hid ((ps.take (j + 1)).map Prod.fst = (ps.take j).map Prod.fst ++ [(ps.getD j (0, 0)).1]) := Lib.hid (by rw [take_getDP (zs := ps) (j := j) (by omega), List.map_append]; rfl)
        generalize ps.getD j (0, 0) = q at *
        obtain ⟨z, y⟩ := q
        dsimp only at HDP HNX HTK hck hck2
        have hbx : Below wr.heap.size wr (wr.alloc (Obj.cells #[Value.int IntKind.i64 z, Value.int IntKind.i64 y] 48)) := (Below.refl _ _).alloc (Nat.le_refl _) _
        replace hS := hS.below hbx
        replace hB := hB.trans (hbx.mono hB.size)
        clear hc h hbx
        by_cases hb : 0 ≤ z ∧ z ≤ 255
        · obtain ⟨v, rfl⟩ := Int.eq_ofNat_of_zero_le hb.1
          have hv : v < 256 := by omega
          have hbt : byteB (v : Int) = true := byteB_yes hb.1 hb.2
          cases hby : byteB y
          · have HF := Lib.hid (HBD.out (by unfold okP; rw [hbt, hby]; rfl))
            clear hS
            go_wp2_with fail
            refine (isByte_any _ _).mono ?_
            rintro e w1 ⟨rfl, rfl⟩
            rw [hbt]
            go_wp2_with fail
            refine (isByte_any _ _).mono ?_
            rintro e w1 ⟨rfl, rfl⟩
            rw [hby]
            go_wp2_with fail
            go_ret
            exact ⟨ret_bool HF.out, hB⟩
          · obtain ⟨hcs, hfs⟩ := hS.2 v hv
            dsimp only at hcs
            by_cases hsn : (v : Int) ∈ (ps.take j).map Prod.fst
            · rw [decide_eq_true hsn] at hcs
              have HF := Lib.hid (HDP.out hsn)
              clear hS hsn
              go_wp2_with fail
              refine (isByte_any _ _).mono ?_
              rintro e w1 ⟨rfl, rfl⟩
              rw [hbt]
              go_wp2_with fail
              refine (isByte_any _ _).mono ?_
              rintro e w1 ⟨rfl, rfl⟩
              rw [hby]
              go_wp2_with fail
              go_ret
              exact ⟨ret_bool HF.out, hB⟩
            · rw [decide_eq_false hsn] at hcs
              have HF := Lib.hid (HNX.out (by unfold okP; rw [hbt, hby]; rfl) hsn)
              have HSS := Lib.hid (hS.set hv (fun u => decide ((u : Int) ∈ (ps.take (j + 1)).map Prod.fst)) (fun u hu => by
                rw [HTK.out]
                by_cases e : u = v
                · subst e
                  rw [if_pos rfl]
                  exact decide_eq_true (by simp)
                · rw [if_neg e]
                  have : ((u : Int) ∈ (ps.take j).map Prod.fst ++ [(v : Int)]) ↔ (u : Int) ∈ (ps.take j).map Prod.fst := by
                    rw [List.mem_append, List.mem_singleton]
                    exact ⟨fun h => h.elim id (fun h => absurd (Int.ofNat.inj h) e), Or.inl⟩
                  simp only [this]))
              have HBB := Lib.hid (hB.setCell (p := ⟨w.heap.size, v, none⟩) (Nat.le_refl _) (.bool true))
              clear hS hsn hB
              go_wp2_with fail
              refine (isByte_any _ _).mono ?_
              rintro e w1 ⟨rfl, rfl⟩
              rw [hbt]
              go_wp2_with fail
              refine (isByte_any _ _).mono ?_
              rintro e w1 ⟨rfl, rfl⟩
              rw [hby]
              go_wp2_with fail
              go_roundw
              case rel => exact ⟨j + 1, by omega, by go_num, HF.out.1, HF.out.2, HSS.out, HBB.out⟩
              case measure => simp [intOf]; omega
        · have HF := Lib.hid (HBD.out (by unfold okP; rw [byteB_no hb]; rfl))
          have hbt : byteB z = false := byteB_no hb
          clear hS
          go_wp2_with fail
          refine (isByte_any z _).mono ?_
          rintro e w1 ⟨rfl, rfl⟩
          rw [hbt]
          go_wp2_with fail
          go_ret
          exact ⟨ret_bool HF.out, hB⟩
      · obtain rfl : j = n := by omega
        have HF : Hid (true = pointsB ps) := Lib.hid (by
          have h1 := HND.out
          rw [List.take_of_length_le (by omega)] at h1
          unfold pointsB
          rw [decide_eq_true (show 1 ≤ ps.length by omega), decide_eq_true (show ps.length ≤ 20 by omega), all_of (fun t ht => HOK.out t (by omega)), decide_eq_true h1]
          rfl)
        clear hS h
        go_wp2_with fail
        go_ret
        exact ⟨ret_bool HF.out, hB⟩
end Go.Proofs.Ytfplfkebamgniaa
