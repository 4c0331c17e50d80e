/- A deed done to a draft. -/
import Derived.Test.YtnoefpkhbllmiaaGreatBkE
import Derived.Test.YtnoefpkhbllmiaaGreatBkPE
namespace Go.Proofs.YtnoefpkhbllmiaaGreat
open Go.RowKit Go.PlainAid G IRow
set_option linter.unusedVariables false
def zeroK (b : Bk) : Bool := zeroB b.c0 b.c1 b.c2 b.c3 b.ts.length b.is.length
/-- What a deed makes of a book, and its code. -/
def doS (b : Bk) (d : Dd) : Bk × Int :=
  if d.kd = 1 then (⟨d.gn, d.nd, d.mn, d.ck, if zeroK b = true then [⟨1, ⟨#[120]⟩⟩] else b.ts, b.is⟩, 0)
  else if zeroK b = true then (bk0, 10)
  else if d.kd = 2 then (if (b.ts.length : Int) + 1 < d.no then (bk0, 6) else if d.no = (b.ts.length : Int) + 1 then (⟨b.c0, b.c1, b.c2, b.c3, b.ts ++ [⟨d.no, d.lk⟩], b.is⟩, 0) else (⟨b.c0, b.c1, b.c2, b.c3, b.ts.set (d.no.toNat - 1) ⟨d.no, d.lk⟩, b.is⟩, 0))
  else itemsR b d
theorem neq_conf (g n m c : Int) (W : World) : (binOp .neq 36 (.agg #[.int .i64 g, .int .i64 n, .int .i64 m, .int .i64 c]) (.agg #[.int .i64 0, .int .i64 0, .int .i64 0, .int .i64 0])).run Tryz.prog W = .ok (.bool (!(decide (g = 0 ∧ n = 0 ∧ m = 0 ∧ c = 0)))) W := by
  by_cases h1 : g = 0 <;> by_cases h2 : n = 0 <;> by_cases h3 : m = 0 <;> by_cases h4 : c = 0 <;> simp [go_sem, h1, h2, h3, h4]
theorem nil_do1 (a b c d : Int) (w : World) : (nilAhead 259 96 (.agg #[.int .i64 a, .int .i64 b, .int .i64 c, .int .i64 d]) "loop.example/g00839/impl.do").run Tryz.prog w = .ok (some false) w := by kernel_rfl
theorem met_do1 (a b c d : Int) (w : World) : (method 259 96 (.agg #[.int .i64 a, .int .i64 b, .int .i64 c, .int .i64 d]) "loop.example/g00839/impl.do").run Tryz.prog w = .ok (113, .agg #[.int .i64 a, .int .i64 b, .int .i64 c, .int .i64 d]) w := by kernel_rfl
theorem nil_do2 (a : Int) (b : ByteArray) (w : World) : (nilAhead 259 97 (.agg #[.int .i64 a, .string b]) "loop.example/g00839/impl.do").run Tryz.prog w = .ok (some false) w := by kernel_rfl
theorem met_do2 (a : Int) (b : ByteArray) (w : World) : (method 259 97 (.agg #[.int .i64 a, .string b]) "loop.example/g00839/impl.do").run Tryz.prog w = .ok (117, .agg #[.int .i64 a, .string b]) w := by kernel_rfl
theorem nil_do3 (a : ByteArray) (b : Int) (c : ByteArray) (w : World) : (nilAhead 259 98 (.agg #[.string a, .int .i64 b, .string c]) "loop.example/g00839/impl.do").run Tryz.prog w = .ok (some false) w := by kernel_rfl
theorem met_do3 (a : ByteArray) (b : Int) (c : ByteArray) (w : World) : (method 259 98 (.agg #[.string a, .int .i64 b, .string c]) "loop.example/g00839/impl.do").run Tryz.prog w = .ok (121, .agg #[.string a, .int .i64 b, .string c]) w := by kernel_rfl
theorem nil_do4 (a : ByteArray) (w : World) : (nilAhead 259 99 (.string a) "loop.example/g00839/impl.do").run Tryz.prog w = .ok (some false) w := by kernel_rfl
theorem met_do4 (a : ByteArray) (w : World) : (method 259 99 (.string a) "loop.example/g00839/impl.do").run Tryz.prog w = .ok (125, .string a) w := by kernel_rfl
theorem deedB_cases {q0 q1 q2 q3 q4 q5 : Int} {q6 q7 : ByteArray} {q8 : Int} {q9 : ByteArray} (h : deedB q0 q1 q2 q3 q4 q5 q6 q7 q8 q9 = true) : (q0 = 1 ∧ (1 ≤ q1 ∧ q1 ≤ 999) ∧ (1 ≤ q2 ∧ q2 ≤ 10) ∧ (q2 ≤ q3 ∧ q3 ≤ 20) ∧ (0 ≤ q4 ∧ q4 ≤ 4294967295)) ∨ (q0 = 2 ∧ (1 ≤ q5 ∧ q5 ≤ 5) ∧ (1 ≤ q6.size ∧ q6.size ≤ 16)) ∨ (q0 = 3 ∧ (1 ≤ q7.size ∧ q7.size ≤ 8) ∧ (1 ≤ q8 ∧ q8 ≤ 5) ∧ (1 ≤ q9.size ∧ q9.size ≤ 20)) ∨ (q0 = 4 ∧ (1 ≤ q7.size ∧ q7.size ≤ 8)) := by
  unfold deedB at h
  by_cases k1 : q0 = 1
  · rw [if_pos k1] at h
    simp only [Bool.and_eq_true] at h
    exact .inl ⟨k1, confB_iff.1 h.1.1⟩
  · rw [if_neg k1] at h
    by_cases k2 : q0 = 2
    · rw [if_pos k2] at h
      simp only [Bool.and_eq_true] at h
      exact .inr (.inl ⟨k2, termB_iff.1 h.1.2⟩)
    · rw [if_neg k2] at h
      by_cases k3 : q0 = 3
      · rw [if_pos k3] at h
        simp only [Bool.and_eq_true] at h
        obtain ⟨h1, h2, h3⟩ := itemB_iff.1 h.2
        exact .inr (.inr (.inl ⟨k3, wordB_size h1, h2, h3⟩))
      · rw [if_neg k3] at h
        by_cases k4 : q0 = 4
        · rw [if_pos k4] at h
          simp only [Bool.and_eq_true] at h
          exact .inr (.inr (.inr ⟨k4, wordB_size h.2⟩))
        · rw [if_neg k4] at h
          cases h
/-- What comes of a right deed behind its interface: what it does to a draft that is not zero. -/
theorem deed_do {q0 q1 q2 q3 q4 q5 : Int} {q6 q7 : ByteArray} {q8 : Int} {q9 : ByteArray} {base B M : Nat} {v : Value} {b : Bk} (hB : deedB q0 q1 q2 q3 q4 q5 q6 q7 q8 q9 = true) (hz : zeroK b = false) (ht : b.ts.length ≤ 5) (hi : b.is.length ≤ 8) :
    ∃ (T : TypeId) (x : Value) (F : FuncId), (∀ u, Calls Tryz.prog 48 #[.agg #[.int .i64 q0, .int .i64 q1, .int .i64 q2, .int .i64 q3, .int .i64 q4, .int .i64 q5, .string q6, .string q7, .int .i64 q8, .string q9]] u fun e w' => e = .returned (.iface T x) ∧ Below u.heap.size u w') ∧
      (∀ u, (nilAhead 259 T x "loop.example/g00839/impl.do").run Tryz.prog u = .ok (some false) u) ∧ (∀ u, (method 259 T x "loop.example/g00839/impl.do").run Tryz.prog u = .ok (F, x) u) ∧ (∀ u y, (callFunc F #[x, y]).run Tryz.prog u = .ok (.enter F #[x, y]) u) ∧
      (∀ u, Dr u base B M v b → base ≤ u.heap.size → Calls Tryz.prog F #[x, .pointer (some ⟨B, 0, none⟩)] u fun e w' => e = .returned (.int .i64 (doS b ⟨q0, q1, q2, q3, q4, q5, q6, q7, q8, q9⟩).2) ∧ Below base u w' ∧ ((doS b ⟨q0, q1, q2, q3, q4, q5, q6, q7, q8, q9⟩).2 = 0 → ∃ v', Dr w' base B M v' (doS b ⟨q0, q1, q2, q3, q4, q5, q6, q7, q8, q9⟩).1)) := by
  rcases deedB_cases hB with ⟨rfl, _⟩ | ⟨rfl, h5, h6⟩ | ⟨rfl, h7, h8, h9⟩ | ⟨rfl, h7⟩
  · refine ⟨_, _, _, fun u => deedOf1_any 1 q1 q2 q3 q4 q5 q6 q7 q8 q9 rfl u, fun u => nil_do1 q1 q2 q3 q4 u, fun u => met_do1 q1 q2 q3 q4 u, fun u y => by kernel_rfl, fun u hD hs => (confDo_any q1 q2 q3 q4 hD hs).mono ?_⟩
    rintro e w' ⟨rfl, hD2, hb⟩
    have hd : doS b ⟨1, q1, q2, q3, q4, q5, q6, q7, q8, q9⟩ = (⟨q1, q2, q3, q4, b.ts, b.is⟩, 0) := by unfold doS; rw [if_pos rfl, hz]; rfl
    rw [hd]
    exact ⟨rfl, hb, fun _ => ⟨_, hD2⟩⟩
  · refine ⟨_, _, _, fun u => deedOf2_any 2 q1 q2 q3 q4 q5 q6 q7 q8 q9 rfl u, fun u => nil_do2 q5 q6 u, fun u => met_do2 q5 q6 u, fun u y => by kernel_rfl, fun u hD hs => ?_⟩
    have hd : doS b ⟨2, q1, q2, q3, q4, q5, q6, q7, q8, q9⟩ = (if (b.ts.length : Int) + 1 < q5 then (bk0, 6) else if q5 = (b.ts.length : Int) + 1 then (⟨b.c0, b.c1, b.c2, b.c3, b.ts ++ [⟨q5, q6⟩], b.is⟩, 0) else (⟨b.c0, b.c1, b.c2, b.c3, b.ts.set (q5.toNat - 1) ⟨q5, q6⟩, b.is⟩, 0)) := by
      unfold doS; dsimp only; rw [if_neg (by decide), hz, if_neg (by decide), if_pos rfl]
    rw [hd]
    by_cases c1 : (b.ts.length : Int) + 1 < q5
    · rw [if_pos c1]
      refine (termDo_none q5 q6 hD hs ht c1).mono ?_
      rintro e w' ⟨rfl, hb⟩
      exact ⟨rfl, hb, fun h => by cases h⟩
    · rw [if_neg c1]
      by_cases c2 : q5 = (b.ts.length : Int) + 1
      · rw [if_pos c2]
        refine (termDo_next q5 q6 hD hs ht c2).mono ?_
        rintro e w' ⟨rfl, v', hD2, hb⟩
        exact ⟨rfl, hb, fun _ => ⟨v', hD2⟩⟩
      · rw [if_neg c2]
        refine (termDo_old q5 q6 hD hs ht (q5.toNat - 1) (by omega) (by omega)).mono ?_
        rintro e w' ⟨rfl, hD2, hb⟩
        exact ⟨rfl, hb, fun _ => ⟨_, hD2⟩⟩
  · refine ⟨_, _, _, fun u => deedOf3_any 3 q1 q2 q3 q4 q5 q6 q7 q8 q9 rfl u, fun u => nil_do3 q7 q8 q9 u, fun u => met_do3 q7 q8 q9 u, fun u y => by kernel_rfl, fun u hD hs => ?_⟩
    have hd : doS b ⟨3, q1, q2, q3, q4, q5, q6, q7, q8, q9⟩ = itemsR b ⟨3, q1, q2, q3, q4, q5, q6, q7, q8, q9⟩ := by
      unfold doS; dsimp only; rw [if_neg (by decide), hz, if_neg (by decide), if_neg (by decide)]
    rw [hd]
    have hqm : q7.size ≤ maxLen := by unfold maxLen; omega
    unfold itemsR
    dsimp only
    by_cases c1 : (b.ts.length : Int) < q8
    · rw [if_pos ⟨rfl, c1⟩]
      refine (putDo_none q7 q8 q9 hD hs hqm ht hi c1).mono ?_
      rintro e w' ⟨rfl, hb⟩
      exact ⟨rfl, hb, fun h => by cases h⟩
    · rw [if_neg (fun h => c1 h.2)]
      have hit : itemsL b.is ⟨3, q1, q2, q3, q4, q5, q6, q7, q8, q9⟩ = genI [⟨q7, q8, q9⟩] q7 b.is := by rw [items_gen]; rfl
      cases c2 : hasI b.is q7
      · by_cases c3 : 8 ≤ b.is.length
        · rw [if_pos ⟨rfl, rfl, c3⟩]
          refine (putDo_full q7 q8 q9 hD hs hqm ht hi c1 c2 c3).mono ?_
          rintro e w' ⟨rfl, hb⟩
          exact ⟨rfl, hb, fun h => by cases h⟩
        · rw [if_neg (fun h => c3 h.2.2), if_neg (fun h => by have := h.1; omega), hit]
          refine (putDo_new q7 q8 q9 hD hs hqm ht hi c1 c2 c3).mono ?_
          rintro e w' ⟨rfl, hD2, hb⟩
          exact ⟨rfl, hb, fun _ => ⟨_, hD2⟩⟩
      · rw [if_neg (fun h => by cases h.2.1), if_neg (fun h => by have := h.1; omega), hit]
        refine (putDo_old q7 q8 q9 hD hs hqm ht hi c1 c2).mono ?_
        rintro e w' ⟨rfl, hD2, hb⟩
        exact ⟨rfl, hb, fun _ => ⟨_, hD2⟩⟩
  · refine ⟨_, _, _, fun u => deedOf4_any 4 q1 q2 q3 q4 q5 q6 q7 q8 q9 rfl u, fun u => nil_do4 q7 u, fun u => met_do4 q7 u, fun u y => by kernel_rfl, fun u hD hs => ?_⟩
    have hd : doS b ⟨4, q1, q2, q3, q4, q5, q6, q7, q8, q9⟩ = itemsR b ⟨4, q1, q2, q3, q4, q5, q6, q7, q8, q9⟩ := by
      unfold doS; dsimp only; rw [if_neg (by decide), hz, if_neg (by decide), if_neg (by decide)]
    rw [hd]
    have hqm : q7.size ≤ maxLen := by unfold maxLen; omega
    unfold itemsR
    dsimp only
    rw [if_neg (fun h => by have := h.1; omega), if_neg (fun h => by have := h.1; omega)]
    have hit : itemsL b.is ⟨4, q1, q2, q3, q4, q5, q6, q7, q8, q9⟩ = genI [] q7 b.is := by rw [items_gen]; rfl
    cases c2 : hasI b.is q7
    · rw [if_pos ⟨rfl, rfl⟩]
      refine (delDo_no q7 hD hs hqm c2).mono ?_
      rintro e w' ⟨rfl, hb⟩
      exact ⟨rfl, hb, fun h => by cases h⟩
    · rw [if_neg (fun h => by cases h.2), hit]
      refine (delDo_yes q7 hD hs hqm c2).mono ?_
      rintro e w' ⟨rfl, hD2, hb⟩
      exact ⟨rfl, hb, fun _ => ⟨_, hD2⟩⟩
set_option maxRecDepth 100000 in
set_option maxHeartbeats 1600000 in
theorem draftDo_any (q0 q1 q2 q3 q4 q5 : Int) (q6 q7 : ByteArray) (q8 : Int) (q9 : ByteArray) {w : World} {base B M : Nat} {v : Value} {b : Bk} (h : Dr w base B M v b) (hbs : base ≤ w.heap.size) (hB : deedB q0 q1 q2 q3 q4 q5 q6 q7 q8 q9 = true) (hzc : zeroK b = decide (b.c0 = 0 ∧ b.c1 = 0 ∧ b.c2 = 0 ∧ b.c3 = 0)) (ht : b.ts.length ≤ 5) (hi : b.is.length ≤ 8) :
    Calls Tryz.prog 50 #[.pointer (some ⟨B, 0, none⟩), .agg #[.int .i64 q0, .int .i64 q1, .int .i64 q2, .int .i64 q3, .int .i64 q4, .int .i64 q5, .string q6, .string q7, .int .i64 q8, .string q9]] w fun e w' => e = .returned (.int .i64 (doS b ⟨q0, q1, q2, q3, q4, q5, q6, q7, q8, q9⟩).2) ∧ Below base w w' ∧ ((doS b ⟨q0, q1, q2, q3, q4, q5, q6, q7, q8, q9⟩).2 = 0 → ∃ v', Dr w' base B M v' (doS b ⟨q0, q1, q2, q3, q4, q5, q6, q7, q8, q9⟩).1) := by
  obtain ⟨V, hV⟩ : ∃ V, V = w.alloc (.cells #[.int .i64 q0, .int .i64 q1, .int .i64 q2, .int .i64 q3, .int .i64 q4, .int .i64 q5, .string q6, .string q7, .int .i64 q8, .string q9] 48) := ⟨_, rfl⟩
  have HBB : Hid (Below base w V) := Lib.hid (by rw [hV]; exact (Below.refl _ _).alloc hbs _)
  have HX : Hid (BoxC V w.heap.size [.int .i64 q0, .int .i64 q1, .int .i64 q2, .int .i64 q3, .int .i64 q4, .int .i64 q5, .string q6, .string q7, .int .i64 q8, .string q9]) := Lib.hid (by rw [hV]; exact BoxC.made _ _ _)
  have HD : Hid (Dr V base B M v b) := Lib.hid (by rw [hV]; exact h.below ((Below.refl _ _).alloc (Nat.le_refl _) _))
  have HBV : Hid (base ≤ V.heap.size) := Lib.hid (Nat.le_trans hbs HBB.out.size)
  clear h
  have hne := neq_conf b.c0 b.c1 b.c2 b.c3
  rw [← hzc] at hne
  have x0 := HD.out.box.cell 0 _ rfl
  have x1 := HD.out.box.cell 1 _ rfl
  have x2 := HD.out.box.cell 2 _ rfl
  have x3 := HD.out.box.cell 3 _ rfl
  clear hzc
  go_enter Tryz.func50, Tryz.ntmps50
  go_upto_region 1 with fail
  rw [← hV]
  clear hV
  cases hz : zeroK b
  · rw [hz] at hne
    obtain ⟨T, x, F, hdo, hnl, hme, hcf, hF⟩ := deed_do (base := base) (B := B) (M := M) (v := v) hB hz ht hi
    have HDO := Lib.hid hdo
    have HF := Lib.hid hF
    clear hdo hF
    have d0 := HX.out.cell 0 _ rfl
    have d1 := HX.out.cell 1 _ rfl
    have d2 := HX.out.cell 2 _ rfl
    have d3 := HX.out.cell 3 _ rfl
    have d4 := HX.out.cell 4 _ rfl
    have d5 := HX.out.cell 5 _ rfl
    have d6 := HX.out.cell 6 _ rfl
    have d7 := HX.out.cell 7 _ rfl
    have d8 := HX.out.cell 8 _ rfl
    have d9 := HX.out.cell 9 _ rfl
    go_wp2_with fail
    refine (HDO.out _).mono ?_
    rintro e w1 ⟨rfl, hb⟩
    have HD1 := Lib.hid (HD.out.below hb)
    have HBB1 := Lib.hid (HBB.out.trans (hb.mono HBV.out))
    have HBV1 := Lib.hid (Nat.le_trans HBV.out hb.size)
    clear hb x0 x1 x2 x3 d0 d1 d2 d3 d4 d5 d6 d7 d8 d9
    go_wp2_with fail
    refine (HF.out _ HD1.out HBV1.out).mono ?_
    rintro e w2 ⟨rfl, hp⟩
    have HP := Lib.hid hp
    clear hp
    go_wp2_with fail
    go_ret
    exact ⟨rfl, HBB1.out.trans HP.out.1, HP.out.2⟩
  · rw [hz] at hne
    have d0 := HX.out.cell 0 _ rfl
    by_cases k1 : q0 = 1
    · subst k1
      have hd : doS b ⟨1, q1, q2, q3, q4, q5, q6, q7, q8, q9⟩ = (⟨q1, q2, q3, q4, [⟨1, ⟨#[120]⟩⟩], b.is⟩, 0) := by unfold doS; rw [if_pos rfl, hz]; rfl
      have HDD := Lib.hid hd
      clear hd
      have d1 := HX.out.cell 1 _ rfl
      have d2 := HX.out.cell 2 _ rfl
      have d3 := HX.out.cell 3 _ rfl
      have d4 := HX.out.cell 4 _ rfl
      have d5 := HX.out.cell 5 _ rfl
      have d6 := HX.out.cell 6 _ rfl
      have d7 := HX.out.cell 7 _ rfl
      have d8 := HX.out.cell 8 _ rfl
      have d9 := HX.out.cell 9 _ rfl
      go_wp2_with fail
      refine (deedOf1_any 1 q1 q2 q3 q4 q5 q6 q7 q8 q9 rfl _).mono ?_
      rintro e w1 ⟨rfl, hb⟩
      have HD1 := Lib.hid (HD.out.below hb)
      have HBB1 := Lib.hid (HBB.out.trans (hb.mono HBV.out))
      have HBV1 := Lib.hid (Nat.le_trans HBV.out hb.size)
      clear hb x0 x1 x2 x3 d0 d1 d2 d3 d4 d5 d6 d7 d8 d9
      have hta : ∀ u : World, (Instr.typeAssert (.iface 96 (.agg #[.int .i64 q1, .int .i64 q2, .int .i64 q3, .int .i64 q4])) 82 96 false).run Tryz.prog u = .ok (.agg #[.int .i64 q1, .int .i64 q2, .int .i64 q3, .int .i64 q4]) u := fun u => by kernel_rfl
      go_wp2_with fail
      refine (begin_any q1 q2 q3 q4 HD1.out HBV1.out).mono ?_
      rintro e w2 ⟨rfl, v', hD2, hb2⟩
      have HD2 := Lib.hid hD2
      have HB2 := Lib.hid (HBB1.out.trans hb2)
      clear hD2 hb2
      go_wp2_with fail
      go_ret
      rw [HDD.out]
      exact ⟨rfl, HB2.out, fun _ => ⟨v', HD2.out⟩⟩
    · have hd : doS b ⟨q0, q1, q2, q3, q4, q5, q6, q7, q8, q9⟩ = (bk0, 10) := by unfold doS; rw [if_neg k1, if_pos hz]
      have k2 : (q0 != 1) = true := by simpa using k1
      have HDD := Lib.hid hd
      clear hd
      go_wp2_with fail
      go_ret
      exact ⟨by rw [HDD.out]; rfl, HBB.out, fun h => by rw [HDD.out] at h; cases h⟩
end Go.Proofs.YtnoefpkhbllmiaaGreat
