/- What the program's PolyRight answers, and which fault a pair has. -/
import Derived.Test.YtfplfkebamgniaaSPoly3
import Derived.Test.YtfplfkebamgniaaFnField
namespace Go.Proofs.Ytfplfkebamgniaa
open Go.RowKit Go.PlainAid G MGF IRow
set_option linter.unusedVariables false
set_option maxRecDepth 100000 in
theorem implPolyRight_any (a : Option Addr) (n cap : Nat) (zs : List Int) (w : World) (h : IR w a n cap zs) (hn : n ≤ 1048576) :
    Calls Try.prog 47 #[.slice a n cap] w fun e w' => e = .returned (.bool (rightB zs)) ∧ w = w' := by
  have hl := h.len
  by_cases h60 : 60 < n
  · have HF : Hid (false = rightB zs) := Lib.hid (by unfold rightB; rw [decide_eq_false (by omega), Bool.false_and])
    clear h
    go_enter Try.func47, Try.ntmps47
    go_wp2_with fail
    go_ret
    exact ⟨ret_bool HF.out, rfl⟩
  · go_enter Try.func47, Try.ntmps47
    go_wp2_with fail
    go_loop [10] (fun i => ∃ j : Nat, j ≤ n ∧ i = .int .i64 j ∧ ∀ t, t < j → byteB (zs.getD t 0) = true) (fun i => n - (intOf i).toNat)
    case atStart => exact ⟨0, Nat.zero_le _, rfl, fun t ht => by omega⟩
    case round =>
      obtain ⟨j, hj, rfl, hby⟩ := hrel
      have HBY := Lib.hid hby
      clear hby
      by_cases hlt : j < n
      · obtain ⟨g, o, rfl, hg, hc⟩ := h.cells (by omega)
        have hck := hc j hlt
        have HG : Hid (byteB (zs.getD j 0) = true → ∀ t, t < j + 1 → byteB (zs.getD t 0) = true) := Lib.hid (fun h2 t ht => by
          by_cases htj : t = j
          · subst htj; exact h2
          · exact HBY.out t (by omega))
        have HN : Hid (byteB (zs.getD j 0) = false → false = rightB zs) := Lib.hid (fun h2 => by
          unfold rightB
          have : zs.all byteB = false := by
            rw [List.all_eq_false]
            exact ⟨zs.getD j 0, by rw [List.getD_eq_getElem?_getD, List.getElem?_eq_getElem (by omega)]; exact List.getElem_mem _, by rw [h2]; exact Bool.false_ne_true⟩
          rw [this]
          simp)
        generalize zs.getD j 0 = z at *
        clear hc h
        go_wp2_with fail
        refine (isByte_any z _).mono ?_
        rintro e w1 ⟨rfl, rfl⟩
        cases hb : byteB z
        · have HF := Lib.hid (HN.out hb)
          go_wp2_with fail
          go_ret
          exact ⟨ret_bool HF.out, rfl⟩
        · have HF := Lib.hid (HG.out hb)
          go_wp2_with fail
          go_round
          case rel => exact ⟨j + 1, by omega, by go_num, HF.out⟩
          case measure => simp [intOf]; omega
      · obtain rfl : j = n := by omega
        have hall : zs.all byteB = true := by
          rw [List.all_eq_true]
          intro z hz
          obtain ⟨t, ht, rfl⟩ := List.getElem_of_mem hz
          have := HBY.out t (by omega)
          rwa [List.getD_eq_getElem?_getD, List.getElem?_eq_getElem ht] at this
        by_cases h0 : j = 0
        · have HF : Hid (true = rightB zs) := Lib.hid (by unfold rightB; rw [decide_eq_true (by omega), hall, decide_eq_true (by omega)]; rfl)
          subst h0
          clear h hall
          go_wp2_with fail
          go_ret
          exact ⟨ret_bool HF.out, rfl⟩
        · obtain ⟨g, o, rfl, hg, hc⟩ := h.cells (by omega)
          have hck := hc (j - 1) (by omega)
          have HF : Hid ((!(zs.getD (j - 1) 0 == 0)) = rightB zs) := Lib.hid (by unfold rightB; rw [decide_eq_true (by omega), hall, decide_eq_false (by omega), hl]; rfl)
          have hw : IntKind.i64.wrap ((j : Int) - 1) = ((j - 1 : Nat) : Int) := by rw [IntWalk.i64_in _ (by omega)]; omega
          have hjj : (j - 1 : Nat) < j := by omega
          have hsub : (j : Int) - 1 = ((j - 1 : Nat) : Int) := by omega
          have hj0 : ((j : Int) == 0) = false := by rw [beq_eq_false_iff_ne]; omega
          generalize zs.getD (j - 1) 0 = z at *
          clear h hc hall
          go_wp2_with fail
          go_ret
          exact ⟨ret_bool (by rw [← HF.out]; first | rfl | (rw [hj0]; rfl)), rfl⟩
theorem pairFault_any (a b : Option Addr) (n m cap cbp : Nat) (zs ys : List Int) (w : World) (h : IR w a n cap zs) (k : IR w b m cbp ys) (hn : n ≤ 1048576) (hm : m ≤ 1048576) :
    Calls Try.prog 74 #[.slice a n cap, .slice b m cbp] w fun e w' => e = .returned (.int .i64 (if 400 < n ∨ 400 < m then 2 else if rightB zs = true ∧ rightB ys = true then 0 else 1)) ∧ w = w' := by
  by_cases h1 : 400 < n
  · rw [if_pos (Or.inl h1)]
    clear h k
    go_enter Try.func74, Try.ntmps74
    go_wp2_with fail
    go_ret
    exact ⟨rfl, rfl⟩
  · by_cases h2 : 400 < m
    · rw [if_pos (Or.inr h2)]
      clear h k
      go_enter Try.func74, Try.ntmps74
      go_wp2_with fail
      go_ret
      exact ⟨rfl, rfl⟩
    · rw [if_neg (by omega)]
      have H := Lib.hid h
      have K := Lib.hid k
      clear h k
      cases hr : rightB zs
      · rw [if_neg (by simp)]
        go_enter Try.func74, Try.ntmps74
        go_wp2_with fail
        refine (implPolyRight_any a n cap zs _ H.out hn).mono ?_
        rintro e w1 ⟨rfl, rfl⟩
        rw [hr]
        go_wp2_with fail
        go_ret
        exact ⟨rfl, rfl⟩
      · cases hr2 : rightB ys
        · rw [if_neg (by simp)]
          go_enter Try.func74, Try.ntmps74
          go_wp2_with fail
          refine (implPolyRight_any a n cap zs _ H.out hn).mono ?_
          rintro e w1 ⟨rfl, rfl⟩
          rw [hr]
          go_wp2_with fail
          refine (implPolyRight_any b m cbp ys _ K.out hm).mono ?_
          rintro e w1 ⟨rfl, rfl⟩
          rw [hr2]
          go_wp2_with fail
          go_ret
          exact ⟨rfl, rfl⟩
        · rw [if_pos ⟨rfl, rfl⟩]
          go_enter Try.func74, Try.ntmps74
          go_wp2_with fail
          refine (implPolyRight_any a n cap zs _ H.out hn).mono ?_
          rintro e w1 ⟨rfl, rfl⟩
          rw [hr]
          go_wp2_with fail
          refine (implPolyRight_any b m cbp ys _ K.out hm).mono ?_
          rintro e w1 ⟨rfl, rfl⟩
          rw [hr2]
          go_wp2_with fail
          go_ret
          exact ⟨rfl, rfl⟩
end Go.Proofs.Ytfplfkebamgniaa
