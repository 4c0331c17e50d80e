/- A right book stays right: what a right deed makes of it. -/
import Derived.Test.YtnoefpkhbllmiaaGreatBkF
import Derived.Test.YtnoefpkhbllmiaaGreatBookC
namespace Go.Proofs.YtnoefpkhbllmiaaGreat
open Go.RowKit Go.PlainAid G IRow
set_option linter.unusedVariables false
/-- A right book that is not zero. -/
structure RightB (b : Bk) : Prop where
  conf : confB b.c0 b.c1 b.c2 b.c3 = true
  len : 1 ≤ b.ts.length ∧ b.ts.length ≤ 5
  many : b.is.length ≤ 8
  term : ∀ i, i < b.ts.length → termB (b.ts.getD i tmD).no (b.ts.getD i tmD).lk = true ∧ (b.ts.getD i tmD).no = (i : Int) + 1
  item : ∀ x ∈ b.is, itemB x.nm x.tm x.bd = true ∧ x.tm ≤ (b.ts.length : Int)
  rise : RiseI b.is
theorem zeroK_iff {b : Bk} : zeroK b = true ↔ (b.c0 = 0 ∧ b.c1 = 0 ∧ b.c2 = 0 ∧ b.c3 = 0) ∧ b.ts = [] ∧ b.is = [] := by
  unfold zeroK zeroB
  rw [Bool.and_eq_true, Bool.and_eq_true, decide_eq_true_eq, decide_eq_true_eq, decide_eq_true_eq, List.length_eq_zero_iff, List.length_eq_zero_iff, and_assoc]
theorem bookB_of {b : Bk} (h : bookB b = true) : zeroK b = true ∨ RightB b := by
  unfold bookB at h
  rw [Bool.or_eq_true] at h
  rcases h with h | h
  · exact .inl h
  · refine .inr ?_
    simp only [Bool.and_eq_true, decide_eq_true_eq] at h
    obtain ⟨⟨⟨⟨h1, h2⟩, h3⟩, h4⟩, h5⟩ := h
    refine ⟨h1, h2, h3, fun i hi => ?_, fun x hx => ?_, rise_of h5⟩
    · have := allTo'_iff.1 h4 i hi
      unfold tAt at this
      rw [Bool.and_eq_true, decide_eq_true_eq] at this
      exact this
    · obtain ⟨i, hi, rfl⟩ := List.mem_iff_getElem.1 hx
      have := allTo'_iff.1 h5 i hi
      unfold iAt at this
      rw [Bool.and_eq_true, Bool.and_eq_true, decide_eq_true_eq] at this
      have e : b.is.getD i imD = b.is[i] := by simp [List.getD, List.getElem?_eq_getElem hi]
      rw [e] at this
      exact this.1
theorem bookB_zero {b : Bk} (h : zeroK b = true) : bookB b = true := by
  unfold bookB
  rw [show zeroB b.c0 b.c1 b.c2 b.c3 b.ts.length b.is.length = true from h, Bool.true_or]
theorem bookB_right {b : Bk} (h : RightB b) : bookB b = true := by
  unfold bookB
  rw [Bool.or_eq_true]
  refine .inr ?_
  simp only [Bool.and_eq_true, decide_eq_true_eq]
  refine ⟨⟨⟨⟨h.conf, h.len⟩, h.many⟩, allTo'_iff.2 fun i hi => ?_⟩, allTo'_iff.2 fun i hi => ?_⟩
  · unfold tAt
    rw [Bool.and_eq_true, decide_eq_true_eq]
    exact h.term i hi
  · unfold iAt
    have e : b.is.getD i imD = b.is[i] := by simp [List.getD, List.getElem?_eq_getElem hi]
    rw [Bool.and_eq_true, Bool.and_eq_true, decide_eq_true_eq, e]
    refine ⟨h.item _ (List.getElem_mem hi), ?_⟩
    rw [Bool.or_eq_true, decide_eq_true_eq]
    by_cases h0 : i = 0
    · exact .inl h0
    · refine .inr ?_
      have hj : i - 1 < b.is.length := by omega
      have e2 : b.is.getD (i - 1) imD = b.is[i - 1] := by simp [List.getD, List.getElem?_eq_getElem hj]
      rw [e2]
      exact List.pairwise_iff_getElem.1 h.rise (i - 1) i hj hi (by omega)
theorem RightB.notZero {b : Bk} (h : RightB b) : zeroK b = false := by
  cases hz : zeroK b
  · rfl
  · have := (zeroK_iff.1 hz).2.1
    have h2 := h.len.1
    rw [this] at h2
    simp at h2
theorem conf_zero {b : Bk} (h : bookB b = true) : zeroK b = decide (b.c0 = 0 ∧ b.c1 = 0 ∧ b.c2 = 0 ∧ b.c3 = 0) := by
  rcases bookB_of h with hz | hr
  · rw [hz, decide_eq_true (zeroK_iff.1 hz).1]
  · rw [hr.notZero, decide_eq_false (fun e => by have := (confB_iff.1 hr.conf).1.1; omega)]
theorem gen_length_put {x : Im} : ∀ {is : List Im}, RiseI is → (genI [x] x.nm is).length = if hasI is x.nm = true then is.length else is.length + 1
  | [], _ => by simp [genI, hasI]
  | y :: r, h => by
    obtain ⟨h0, hr⟩ := List.pairwise_cons.1 h
    rw [hasI_cons]
    unfold genI
    by_cases h1 : ltS y.nm x.nm = true
    · rw [if_pos h1, if_pos h1, List.length_cons, gen_length_put hr]
      split <;> simp
    · rw [if_neg h1, if_neg h1]
      by_cases h2 : y.nm = x.nm
      · rw [if_pos h2, if_pos (decide_eq_true h2)]; simp
      · rw [if_neg h2, if_neg (by rw [decide_eq_false h2]; decide)]; simp
theorem gen_length_del {nm : ByteArray} : ∀ {is : List Im}, (genI [] nm is).length ≤ is.length
  | [] => by simp [genI]
  | y :: r => by
    unfold genI
    split
    · have := gen_length_del (nm := nm) (is := r); simp only [List.length_cons]; omega
    · split <;> simp
theorem doS_right {b : Bk} {d : Dd} (hb : bookB b = true) (hd : deedOf d = true) (hc : (doS b d).2 = 0) : RightB (doS b d).1 := by
  obtain ⟨q0, q1, q2, q3, q4, q5, q6, q7, q8, q9⟩ := d
  have hB : deedB q0 q1 q2 q3 q4 q5 q6 q7 q8 q9 = true := hd
  by_cases k1 : q0 = 1
  · subst k1
    have hcf : confB q1 q2 q3 q4 = true := by
      unfold deedB at hB
      rw [if_pos rfl, Bool.and_eq_true, Bool.and_eq_true] at hB
      exact hB.1.1
    unfold doS
    rw [if_pos rfl]
    dsimp only
    rcases bookB_of hb with hz | hr
    · rw [hz, if_pos rfl]
      have hi := (zeroK_iff.1 hz).2.2
      rw [hi]
      refine ⟨hcf, by simp, by simp, fun i hi => ?_, fun x hx => (by cases hx), List.Pairwise.nil⟩
      have h0 : i = 0 := by simp at hi; omega
      subst h0
      exact ⟨by rfl, by simp⟩
    · rw [hr.notZero, if_neg (by decide)]
      exact ⟨hcf, hr.len, hr.many, hr.term, hr.item, hr.rise⟩
  · have hz : zeroK b = false := by
      cases hz : zeroK b
      · rfl
      · unfold doS at hc
        rw [if_neg k1, if_pos hz] at hc
        cases hc
    have hr := (bookB_of hb).resolve_left (by rw [hz]; decide)
    unfold doS at hc ⊢
    rw [if_neg k1, if_neg (by rw [hz]; decide)] at hc ⊢
    by_cases k2 : q0 = 2
    · subst k2
      have htm : termB q5 q6 = true := by
        unfold deedB at hB
        rw [if_neg (by decide), if_pos rfl, Bool.and_eq_true, Bool.and_eq_true] at hB
        exact hB.1.2
      have hno := (termB_iff.1 htm).1
      rw [if_pos rfl] at hc ⊢
      dsimp only at hc ⊢
      by_cases c1 : (b.ts.length : Int) + 1 < q5
      · rw [if_pos c1] at hc; cases hc
      · rw [if_neg c1]
        by_cases c2 : q5 = (b.ts.length : Int) + 1
        · rw [if_pos c2]
          refine ⟨hr.conf, by simp; omega, hr.many, fun i hi => ?_, fun x hx => ?_, hr.rise⟩
          · rcases Nat.lt_or_ge i b.ts.length with h | h
            · have e : (b.ts ++ [(⟨q5, q6⟩ : Tm)]).getD i tmD = b.ts.getD i tmD := by simp [List.getD, List.getElem?_append_left h]
              rw [e]; exact hr.term i h
            · have h2 : i = b.ts.length := by simp at hi; omega
              have e : (b.ts ++ [(⟨q5, q6⟩ : Tm)]).getD i tmD = ⟨q5, q6⟩ := by simp [List.getD, h2]
              rw [e]; exact ⟨htm, by dsimp only; omega⟩
          · have := hr.item x hx
            exact ⟨this.1, by simp; omega⟩
        · rw [if_neg c2]
          have hlt : q5.toNat - 1 < b.ts.length := by omega
          refine ⟨hr.conf, by simp; exact hr.len, hr.many, fun i hi => ?_, fun x hx => ?_, hr.rise⟩
          · have hi2 : i < b.ts.length := by simpa using hi
            by_cases h : q5.toNat - 1 = i
            · have e : (b.ts.set (q5.toNat - 1) (⟨q5, q6⟩ : Tm)).getD i tmD = ⟨q5, q6⟩ := by simp [List.getD, h, hi2]
              rw [e]; exact ⟨htm, by dsimp only; omega⟩
            · have e : (b.ts.set (q5.toNat - 1) (⟨q5, q6⟩ : Tm)).getD i tmD = b.ts.getD i tmD := by simp [List.getD, List.getElem?_set, h]
              rw [e]; exact hr.term i hi2
          · have := hr.item x hx
            exact ⟨this.1, by simpa using this.2⟩
    · rw [if_neg k2] at hc ⊢
      unfold itemsR at hc ⊢
      by_cases c1 : (⟨q0, q1, q2, q3, q4, q5, q6, q7, q8, q9⟩ : Dd).kd = 3 ∧ (b.ts.length : Int) < (⟨q0, q1, q2, q3, q4, q5, q6, q7, q8, q9⟩ : Dd).tm
      · rw [if_pos c1] at hc; cases hc
      · rw [if_neg c1] at hc ⊢
        by_cases c2 : (⟨q0, q1, q2, q3, q4, q5, q6, q7, q8, q9⟩ : Dd).kd = 3 ∧ hasI b.is (⟨q0, q1, q2, q3, q4, q5, q6, q7, q8, q9⟩ : Dd).nm = false ∧ 8 ≤ b.is.length
        · rw [if_pos c2] at hc; cases hc
        · rw [if_neg c2] at hc ⊢
          by_cases c3 : (⟨q0, q1, q2, q3, q4, q5, q6, q7, q8, q9⟩ : Dd).kd = 4 ∧ hasI b.is (⟨q0, q1, q2, q3, q4, q5, q6, q7, q8, q9⟩ : Dd).nm = false
          · rw [if_pos c3] at hc; cases hc
          · rw [if_neg c3, items_gen]
            dsimp only at c1 c2 c3 ⊢
            by_cases k3 : q0 = 3
            · subst k3
              have hit : itemB q7 q8 q9 = true := by
                unfold deedB at hB
                rw [if_neg (by decide), if_neg (by decide), if_pos rfl, Bool.and_eq_true] at hB
                exact hB.2
              rw [if_pos rfl]
              have hlen := gen_length_put (x := ⟨q7, q8, q9⟩) hr.rise
              dsimp only at hlen
              refine ⟨hr.conf, hr.len, ?_, hr.term, fun x hx => ?_, gen_rise (.inr ⟨_, rfl, rfl⟩) hr.rise⟩
              · show (genI [⟨q7, q8, q9⟩] q7 b.is).length ≤ 8
                rw [hlen]
                cases hh : hasI b.is q7
                · rw [if_neg (by decide)]
                  have := hr.many
                  by_cases h8 : 8 ≤ b.is.length
                  · exact absurd ⟨rfl, hh, h8⟩ c2
                  · omega
                · rw [if_pos rfl]; exact hr.many
              · rcases mem_gen hx with h | h
                · obtain rfl := List.mem_singleton.1 h
                  refine ⟨hit, ?_⟩
                  show q8 ≤ (b.ts.length : Int)
                  by_cases h8 : (b.ts.length : Int) < q8
                  · exact absurd ⟨rfl, h8⟩ c1
                  · omega
                · exact hr.item x h
            · rw [if_neg k3]
              refine ⟨hr.conf, hr.len, Nat.le_trans gen_length_del hr.many, hr.term, fun x hx => ?_, gen_rise (.inl rfl) hr.rise⟩
              rcases mem_gen hx with h | h
              · cases h
              · exact hr.item x h
/-- Deeds one after the other; at a code, that code. -/
def doAllS : Bk → List Dd → Bk × Int
  | b, [] => (b, 0)
  | b, d :: r => if (doS b d).2 = 0 then doAllS (doS b d).1 r else (bk0, (doS b d).2)
theorem book_sizes {b : Bk} (h : bookB b = true) : b.ts.length ≤ 5 ∧ b.is.length ≤ 8 ∧ RiseI b.is ∧ (∀ t, t < b.ts.length → (b.ts.getD t tmD).lk.size ≤ 16) ∧ (∀ t, t < b.is.length → (b.is.getD t imD).nm.size ≤ 8 ∧ (b.is.getD t imD).bd.size ≤ 20) := by
  rcases bookB_of h with hz | hr
  · obtain ⟨_, h1, h2⟩ := zeroK_iff.1 hz
    rw [h1, h2]
    exact ⟨by simp, by simp, List.Pairwise.nil, fun t ht => by simp at ht, fun t ht => by simp at ht⟩
  · refine ⟨hr.len.2, hr.many, hr.rise, fun t ht => (termB_iff.1 (hr.term t ht).1).2.2, fun t ht => ?_⟩
    have hm : b.is.getD t imD ∈ b.is := by rw [List.getD, List.getElem?_eq_getElem ht]; exact List.getElem_mem ht
    have := itemB_iff.1 (hr.item _ hm).1
    exact ⟨(wordB_size this.1).2, this.2.2.2⟩
end Go.Proofs.YtnoefpkhbllmiaaGreat
