/- Texts put together: what the law uses of them. -/
import Derived.Test.YtidcpdfhnhfelaaGreatDoorQTxr42
import Derived.Test.YtidcpdfhnhfelaaGreatDoorQTxr00
/- What the laws' own functions on rows of rows of deeds answer. -/
namespace Go.Proofs.YtidcpdfhnhfelaaGreatDoor
open Go.RowKit Go.PlainAid G MGet MGF IRow MNum MJoin
set_option linter.unusedVariables false
/-- Rows of deeds in new memory: where they lie, and what is in them. -/
structure SSL (w : World) (B : Nat) (v : Value) (rs : List Rw) (L : Nat → List Dd) : Prop where
  out : w.ownsRow B 63 rwE.k v rs.length (rwE.flat rs)
  row : ∀ i, i < rs.length → w.ownsRow B 110 ddE.k (rs.getD i rwD).v (rs.getD i rwD).n (ddE.flat (L i))
  dis : ∀ i j, i < j → j < rs.length → Disj (rs.getD i rwD).v (rs.getD j rwD).v
theorem SS.rows {w : World} {B : Nat} {v : Value} {rs : List Rw} (h : SS w B v rs) : SSL w B v rs (fun i => (rs.getD i rwD).l) := ⟨h.out, h.row, h.dis⟩
theorem SSL.below {w w' : World} {B : Nat} {v : Value} {rs : List Rw} {L : Nat → List Dd} (h : SSL w B v rs L) (hb : Below w.heap.size w w') : SSL w' B v rs L :=
  ⟨own_below h.out hb, fun i hi => own_below (h.row i hi) hb, h.dis⟩
theorem disj_symm {v u : Value} (h : Disj v u) : Disj u v := fun g hg he => h g he hg
/-- The row at a place, by its cell. -/
theorem SSL.at {w : World} {B c : Nat} {a : Option Addr} {rs : List Rw} {L : Nat → List Dd} (h : SSL w B (.slice a rs.length c) rs L) {i : Nat} (hi : i < rs.length) : ∃ g o, a = some ⟨g, o, none⟩ ∧ g < w.heap.size ∧ w.cell? ⟨g, o + i, none⟩ = some (.slice (rs.getD i rwD).a (rs.getD i rwD).n (rs.getD i rwD).c) ∧ DdR w (rs.getD i rwD).a (rs.getD i rwD).n (rs.getD i rwD).c (L i) := by
  obtain ⟨g, o, ha, hg, hc⟩ := (SR.own (E := rwE) (d := rwD) (by decide) h.out).cells (by omega)
  exact ⟨g, o, ha, hg, by simpa [rwE] using hc i hi 0 _ rfl, DdR.own (h.row i hi)⟩
/-- One row of them is written anew. -/
theorem SSL.set {w w' : World} {B : Nat} {v : Value} {rs : List Rw} {L : Nat → List Dd} (h : SSL w B v rs L) {j : Nat} (hj : j < rs.length) (l : List Dd) (ho : w'.ownsRow B 110 ddE.k (rs.getD j rwD).v (rs.getD j rwD).n (ddE.flat l)) (hg : w.grownBy w' (rs.getD j rwD).v.ownBlock) : SSL w' B v rs (fun i => if i = j then l else L i) := by
  refine ⟨own_grown h.out hg (own_types h.out (h.row j hj) (by decide)), fun i hi => ?_, h.dis⟩
  by_cases e : i = j
  · subst e
    simpa using ho
  · simp only [if_neg e]
    refine own_grown (h.row i hi) hg ?_
    rcases Nat.lt_or_gt_of_ne e with h1 | h1
    · exact h.dis i j h1 hj
    · exact disj_symm (h.dis j i h1 hi)
theorem SSL.to {w : World} {B : Nat} {v : Value} {rs : List Rw} {L L' : Nat → List Dd} (h : SSL w B v rs L) (he : ∀ i, i < rs.length → L' i = L i) : SSL w B v rs L' := ⟨h.out, fun i hi => by rw [he i hi]; exact h.row i hi, h.dis⟩
/-- The mark ahead of a row. -/
def koff (rs : List Rw) (k0 : Nat) : Nat → Nat
  | 0 => k0
  | j + 1 => koff rs k0 j + 10 * (rs.getD j rwD).n
theorem koff_le (rs : List Rw) (k0 : Nat) (h : ∀ i, i < rs.length → (rs.getD i rwD).n ≤ 10) : ∀ j, j ≤ rs.length → koff rs k0 j ≤ k0 + 100 * j
  | 0, _ => Nat.le_refl _
  | j + 1, hj => by
    have h1 := koff_le rs k0 h j (by omega)
    have h2 := h j (by omega)
    show koff rs k0 j + 10 * (rs.getD j rwD).n ≤ _
    omega
theorem koff_ge (rs : List Rw) (k0 : Nat) : ∀ j, k0 ≤ koff rs k0 j
  | 0 => Nat.le_refl _
  | j + 1 => Nat.le_trans (koff_ge rs k0 j) (Nat.le_add_right _ _)
def marksL (rs : List Rw) (k0 j : Nat) (L : Nat → List Dd) (i : Nat) : List Dd := if i < j then marksDd (koff rs k0 i) (rs.getD i rwD).n else L i
set_option maxRecDepth 100000 in
set_option maxHeartbeats 1600000 in
theorem eqDeedSS_same (a b : Option Addr) (n c c2 B B2 : Nat) (rs qs : List Rw) (L M : Nat → List Dd) (w : World) (hr : rs.length = n) (hq : qs.length = n) (h : SSL w B (.slice a n c) rs L) (k : SSL w B2 (.slice b n c2) qs M) (he : ∀ i, i < n → L i = M i) (hn : n ≤ 1048576) (hm : ∀ i, i < n → (rs.getD i rwD).n ≤ 10) :
    Calls Tryz.prog 8 #[.slice a n c, .slice b n c2] w fun e w' => e = .returned (.bool true) ∧ Below w.heap.size w w' := by
  have HH := Lib.hid h
  have HK := Lib.hid k
  have HE := Lib.hid he
  have HM := Lib.hid hm
  have HRL := Lib.hid hr
  have HQL := Lib.hid hq
  clear h k he hm hr hq
  go_enter Tryz.func8, Tryz.ntmps8
  go_wp2_with fail
  go_loopw [5] (fun i wr => ∃ j : Nat, j ≤ n ∧ i = .int .i64 j ∧ Hid (Below w.heap.size w wr)) (fun i _ => n - (intOf i).toNat)
  case atStart => exact ⟨0, Nat.zero_le _, rfl, Below.refl _ _⟩
  case round =>
    obtain ⟨j, hj, rfl, HBj⟩ := hrel
    by_cases hlt : j < n
    · obtain ⟨g, o, rfl, hg, a0, hd⟩ := SSL.at (by have := HH.out.below HBj.out; rw [← HRL.out] at this; exact this) (i := j) (by rw [HRL.out]; exact hlt)
      obtain ⟨g', o', rfl, hg', b0, hd'⟩ := SSL.at (by have := HK.out.below HBj.out; rw [← HQL.out] at this; exact this) (i := j) (by rw [HQL.out]; exact hlt)
      have hnj := HM.out j hlt
      rw [← HE.out j hlt] at hd'
      have e1 : (rs.getD j rwD).n = (qs.getD j rwD).n := hd.len.symm.trans hd'.len
      rw [← e1] at hd' b0
      have HD := Lib.hid hd
      have HD' := Lib.hid hd'
      clear hd hd' e1
      generalize (rs.getD j rwD).a = ra at *
      generalize (rs.getD j rwD).n = rn at *
      generalize (rs.getD j rwD).c = rc at *
      generalize (qs.getD j rwD).a = qa at *
      generalize (qs.getD j rwD).c = qc at *
      have HB := Lib.hid HBj.out.drew
      have HDd : Hid (DdR wr.drew ra rn rc (L j)) := Lib.hid (HD.out.below (Below.refl _ _).drew)
      have HDd' : Hid (DdR wr.drew qa rn qc (L j)) := Lib.hid (HD'.out.below (Below.refl _ _).drew)
      clear HD HD' HBj
      go_wp2_with fail
      go_still_tail 8, (by kernel_rfl)
      change wpList _ _ _ _ _ wr.drew
      clear a0 b0 hg hg'
      generalize wr.drew = we at *
      go_wp2_with fail
      refine (eqDeedS_same ra qa rn rc qc (L j) _ HDd.out HDd'.out (by omega)).mono ?_
      rintro e w5 ⟨rfl, hb⟩
      have HB5 := Lib.hid (HB.out.trans (hb.mono HB.out.size))
      clear hb
      go_wp2_with fail
      go_roundw
      case rel => exact ⟨j + 1, by omega, by go_num, HB5.out⟩
      case measure => simp [intOf] <;> omega
    · obtain rfl : j = n := by omega
      go_wp2_with fail
      go_ret
      exact ⟨rfl, HBj.out⟩
set_option maxRecDepth 100000 in
set_option maxHeartbeats 1600000 in
theorem markDeedSS_any (a : Option Addr) (n c B : Nat) (rs : List Rw) (L : Nat → List Dd) (k0 : Nat) (w : World) (hr : rs.length = n) (h : SSL w B (.slice a n c) rs L) (hB : B ≤ w.heap.size) (hn : n ≤ 1048576) (hm : ∀ i, i < n → (rs.getD i rwD).n ≤ 10) (hk0 : 0 < k0) (hk1 : k0 ≤ 1000000) :
    Calls Tryz.prog 9 #[.slice a n c, .int .i64 (k0 : Int)] w fun e w' => e = .returned (.int .i64 (koff rs k0 n : Int)) ∧ SSL w' B (.slice a n c) rs (marksL rs k0 n L) ∧ Below B w w' := by
  have HH := Lib.hid h
  have HM := Lib.hid hm
  have HRL := Lib.hid hr
  have HKO : Hid (∀ i, i ≤ n → koff rs k0 i ≤ k0 + 100 * i ∧ k0 ≤ koff rs k0 i) := Lib.hid (fun i hi => ⟨koff_le rs k0 (by rw [hr]; exact hm) i (by omega), koff_ge rs k0 i⟩)
  clear h hm hr
  go_enter Tryz.func9, Tryz.ntmps9
  go_wp2_with fail
  go_loopw [1, 5] (fun k i wr => ∃ j : Nat, j ≤ n ∧ i = .int .i64 j ∧ k = .int .i64 (koff rs k0 j : Int) ∧ Hid (SSL wr B (.slice a n c) rs (marksL rs k0 j L)) ∧ Hid (Below B w wr)) (fun _ i _ => n - (intOf i).toNat)
  case atStart => exact ⟨0, Nat.zero_le _, rfl, rfl, HH.out.to (fun i _ => by unfold marksL; rw [if_neg (by omega)]), Below.refl _ _⟩
  case round =>
    obtain ⟨j, hj, rfl, rfl, HSj, HBj⟩ := hrel
    by_cases hlt : j < n
    · obtain ⟨g, o, rfl, hg, a0, _⟩ := SSL.at (by have := HSj.out; rw [← HRL.out] at this; exact this) (i := j) (by rw [HRL.out]; exact hlt)
      have hko := HKO.out j hj
      have hrow := HSj.out.row j (by rw [HRL.out]; exact hlt)
      have HRW := Lib.hid hrow
      have hnj := HM.out j hlt
      have HSB : Hid (B ≤ wr.heap.size) := Lib.hid (Nat.le_trans hB HBj.out.size)
      have HLT : Hid (∀ q, (rs.getD j rwD).v.ownBlock = some q → B ≤ q) := Lib.hid (fun q hq => (hrow.lt q hq).1)
      clear hrow
      have HSET : Hid (∀ w', w'.ownsRow B 110 ddE.k (rs.getD j rwD).v (rs.getD j rwD).n (ddE.flat (marksDd (koff rs k0 j) (rs.getD j rwD).n)) → wr.grownBy w' (rs.getD j rwD).v.ownBlock → SSL w' B (.slice (some ⟨g, o, none⟩) n c) rs (marksL rs k0 (j + 1) L)) := Lib.hid (fun w' ho hg => (HSj.out.set (by rw [HRL.out]; exact hlt) _ ho hg).to (fun i hi => by
        unfold marksL
        by_cases e : i = j
        · subst e; rw [if_pos (by omega), if_pos rfl]
        · by_cases e2 : i < j
          · rw [if_pos (by omega), if_neg e, if_pos e2]
          · rw [if_neg (by omega), if_neg e, if_neg e2]))
      go_wp2_with fail
      refine (markDeedS_any (rs.getD j rwD).a B (rs.getD j rwD).n (rs.getD j rwD).c _ (koff rs k0 j) wr HRW.out (by omega) (by omega) (by omega)).mono ?_
      rintro e w1 ⟨rfl, ho, hgb⟩
      have HS1 := Lib.hid (HSET.out w1 ho hgb)
      have HB1 := Lib.hid (HBj.out.grown hgb HSB.out HLT.out)
      clear ho hgb
      go_wp2_with fail
      go_roundw
      case rel => exact ⟨j + 1, by omega, by go_num, by show _ = Value.int .i64 ((koff rs k0 j + 10 * (rs.getD j rwD).n : Nat) : Int); go_num, HS1.out, HB1.out⟩
      case measure => simp [intOf] <;> omega
    · obtain rfl : j = n := by omega
      go_wp2_with fail
      go_ret
      exact ⟨rfl, HSj.out, HBj.out⟩
set_option maxRecDepth 100000 in
set_option maxHeartbeats 1600000 in
theorem heldDeedSS_any (a : Option Addr) (n c B : Nat) (rs : List Rw) (L : Nat → List Dd) (k0 : Nat) (w : World) (hr : rs.length = n) (h : SSL w B (.slice a n c) rs (marksL rs k0 n L)) (hn : n ≤ 1048576) (hm : ∀ i, i < n → (rs.getD i rwD).n ≤ 10) (hk0 : 0 < k0) (hk1 : k0 ≤ 1000000) :
    Calls Tryz.prog 10 #[.slice a n c, .int .i64 (k0 : Int)] w fun e w' => e = .returned (.int .i64 (koff rs k0 n : Int)) ∧ Below w.heap.size w w' := by
  have HH := Lib.hid h
  have HM := Lib.hid hm
  have HRL := Lib.hid hr
  have HKO : Hid (∀ i, i ≤ n → koff rs k0 i ≤ k0 + 100 * i ∧ k0 ≤ koff rs k0 i) := Lib.hid (fun i hi => ⟨koff_le rs k0 (by rw [hr]; exact hm) i (by omega), koff_ge rs k0 i⟩)
  clear h hm hr
  go_enter Tryz.func10, Tryz.ntmps10
  go_wp2_with fail
  go_loopw [1, 5] (fun k i wr => ∃ j : Nat, j ≤ n ∧ i = .int .i64 j ∧ k = .int .i64 (koff rs k0 j : Int) ∧ Hid (Below w.heap.size w wr)) (fun _ i _ => n - (intOf i).toNat)
  case atStart => exact ⟨0, Nat.zero_le _, rfl, rfl, Below.refl _ _⟩
  case round =>
    obtain ⟨j, hj, rfl, rfl, HBj⟩ := hrel
    by_cases hlt : j < n
    · obtain ⟨g, o, rfl, hg, a0, hd⟩ := SSL.at (by have := HH.out.below HBj.out; rw [← HRL.out] at this; exact this) (i := j) (by rw [HRL.out]; exact hlt)
      have hko := HKO.out j hj
      have hnj := HM.out j hlt
      have HDM : Hid (DdR wr (rs.getD j rwD).a (rs.getD j rwD).n (rs.getD j rwD).c (marksDd (koff rs k0 j) (rs.getD j rwD).n)) := Lib.hid (by unfold marksL at hd; rw [HRL.out, if_pos hlt] at hd; exact hd)
      clear hd
      go_wp2_with fail
      refine (heldDeedS_any (rs.getD j rwD).a (rs.getD j rwD).n (rs.getD j rwD).c (koff rs k0 j) wr HDM.out (by omega) (by omega) (by omega)).mono ?_
      rintro e w1 ⟨rfl, hb⟩
      have HB1 := Lib.hid (HBj.out.trans (hb.mono HBj.out.size))
      have hnz : ¬ ((koff rs k0 j : Int) + 10 * ((rs.getD j rwD).n : Int)) < 0 := by omega
      clear hb
      go_wp2_with fail
      go_roundw
      case rel => exact ⟨j + 1, by omega, by go_num, by show _ = Value.int .i64 ((koff rs k0 j + 10 * (rs.getD j rwD).n : Nat) : Int); go_num, HB1.out⟩
      case measure => simp [intOf] <;> omega
    · obtain rfl : j = n := by omega
      go_wp2_with fail
      go_ret
      exact ⟨rfl, HBj.out⟩
end Go.Proofs.YtidcpdfhnhfelaaGreatDoor

