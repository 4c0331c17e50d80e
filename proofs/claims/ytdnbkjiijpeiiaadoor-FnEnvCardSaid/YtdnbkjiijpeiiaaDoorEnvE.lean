/- What the program's EnvRead answers: the face that recovers. -/
import Derived.Test.YtdnbkjiijpeiiaaDoorEnvD
import Derived.Stop.Asserts
namespace Go.Proofs.YtdnbkjiijpeiiaaDoor
open Go.RowKit Go.PlainAid G MGet MGF IRow MNum MJoin
set_option linter.unusedVariables false
set_option maxRecDepth 100000 in
theorem caughtCode_bad (c : Int) (w : World) : Calls Tryd.prog 33 #[errV c] w fun e w' => e = .returned (.int .i64 c) ∧ Below w.heap.size w w' := by
  have hta : ∀ u : World, (Instr.typeAssert (.iface 79 (.agg #[.int .i64 c])) 20 79 true).run Tryd.prog u = .ok (.tuple #[.agg #[.int .i64 c], .bool true]) u := fun _ => by kernel_rfl
  unfold errV
  go_enter Tryd.func33, Tryd.ntmps33
  go_wp2_with fail
  go_ret
  exact ⟨rfl, by repeat' (first | exact Below.refl _ _ | refine Below.alloc ?_ (by first | exact Nat.le_refl _ | (simp; done) | (simp; omega)) _ | refine Below.setCell ?_ (by first | exact Nat.le_refl _ | (simp; done) | (simp; omega)) _)⟩
/-- The result's cells, behind what was recovered. -/
def Caught (h : Nat) (c : Int) (w w' : World) : Prop :=
  w'.cell? ⟨h, 0, none⟩ = some (.int .i64 0) ∧ w'.cell? ⟨h, 1, none⟩ = some (.int .i64 0) ∧ w'.cell? ⟨h, 2, none⟩ = some (.int .i64 0) ∧ w'.cell? ⟨h, 3, none⟩ = some (.int .i64 0) ∧ w'.cell? ⟨h, 4, none⟩ = some (.string ⟨#[]⟩) ∧ w'.cell? ⟨h, 5, none⟩ = some (.int .i64 c) ∧ Below h w w'
set_option maxRecDepth 100000 in
set_option maxHeartbeats 1600000 in
theorem catch_panicking (h : Nat) (c : Int) (w : World) (hO : w.ownsRow h 29 6 (.slice (some ⟨h, 0, none⟩) 1 1) 1 [.int .i64 0, .int .i64 0, .int .i64 0, .int .i64 0, .string ⟨#[]⟩, .int .i64 0]) :
    CallsD Tryd.prog 32 #[.pointer (some ⟨h, 0, none⟩)] (.panicking [{ v := errV c, recovered := false }]) w fun e u' w' => e = .returned (.tuple #[]) ∧ u' = .panicking [{ v := errV c, recovered := true }] ∧ Caught h c w w' := by
  refine callsD_of_wpS Tryd.func32 rfl fun c₀ cs hu => ?_
  apply wpS_seq
  apply wpS_region
  simp [wpOpsS, go_sem, recoverD, hu, Tryd.ntmps32, Exit.thenS]
  change Code.wpS _ _ _ { tmps := #[.pointer (some ⟨h, 0, none⟩), errV c, errV c, undef, undef, undef, undef, undef], defers := [] } _ _
  refine wpS_of_wp ?_
  unfold errV
  go_wp2_with fail
  refine (caughtCode_bad c _).mono ?_
  rintro e w1 ⟨rfl, hb⟩
  have hhw : h < w.heap.size := (hO.lt h rfl).2
  have HO6 := Lib.hid (own_below hO hb)
  have HB6 := Lib.hid (hb.mono (Nat.le_of_lt hhw))
  clear hb
  have q0 : w1.cell? ⟨h, 0, none⟩ = some (.int .i64 0) := by rw [HO6.out.cellAt 0 (by decide)]; rfl
  have q1 : w1.cell? ⟨h, 1, none⟩ = some (.int .i64 0) := by rw [HO6.out.cellAt 1 (by decide)]; rfl
  have q2 : w1.cell? ⟨h, 2, none⟩ = some (.int .i64 0) := by rw [HO6.out.cellAt 2 (by decide)]; rfl
  have q3 : w1.cell? ⟨h, 3, none⟩ = some (.int .i64 0) := by rw [HO6.out.cellAt 3 (by decide)]; rfl
  have q4 : w1.cell? ⟨h, 4, none⟩ = some (.string ⟨#[]⟩) := by rw [HO6.out.cellAt 4 (by decide)]; rfl
  have q5 : w1.cell? ⟨h, 5, none⟩ = some (.int .i64 0) := by rw [HO6.out.cellAt 5 (by decide)]; rfl
  have f0 := HO6.out.frozenAt 0
  have f1 := HO6.out.frozenAt 1
  have f2 := HO6.out.frozenAt 2
  have f3 := HO6.out.frozenAt 3
  have f4 := HO6.out.frozenAt 4
  have f5 := HO6.out.frozenAt 5
  have HP := Lib.hid (put6 (v0 := .int .i64 0) (v1 := .int .i64 0) (v2 := .int .i64 0) (v3 := .int .i64 0) (v4 := .string ⟨#[]⟩) (v5 := .int .i64 c) q0 q1 q2 q3 q4 q5)
  have HB7 := Lib.hid ((((((HB6.out.setCell (p := ⟨h, 0, none⟩) (Nat.le_refl _) (.int .i64 0)).setCell (p := ⟨h, 1, none⟩) (Nat.le_refl _) (.int .i64 0)).setCell (p := ⟨h, 2, none⟩) (Nat.le_refl _) (.int .i64 0)).setCell (p := ⟨h, 3, none⟩) (Nat.le_refl _) (.int .i64 0)).setCell (p := ⟨h, 4, none⟩) (Nat.le_refl _) (.string ⟨#[]⟩)).setCell (p := ⟨h, 5, none⟩) (Nat.le_refl _) (.int .i64 c))
  clear hO
  go_wp2_with fail
  obtain ⟨r0, r1, r2, r3, r4, r5⟩ := HP.out
  exact ⟨rfl, _, rfl, .tuple #[], by simp [results, Tryd.results32, go_sem], rfl, rfl, r0, r1, r2, r3, r4, r5, HB7.out⟩
theorem catch_idle (h : Nat) (w : World) :
    CallsD Tryd.prog 32 #[.pointer (some ⟨h, 0, none⟩)] .returning w fun e u' w' => e = .returned (.tuple #[]) ∧ u' = .returning ∧ w' = w := by
  refine callsD_of_wpS Tryd.func32 rfl fun c₀ cs hu => ?_
  apply wpS_seq
  apply wpS_region
  simp [wpOpsS, go_sem, recoverD, hu, Tryd.ntmps32, Exit.thenS]
  change Code.wpS _ _ _ { tmps := #[.pointer (some ⟨h, 0, none⟩), .nilIface, .nilIface, undef, undef, undef, undef, undef], defers := [] } _ _
  refine wpS_of_wp ?_
  go_wp2_with fail
  refine ⟨rfl, .returning, ?_, .tuple #[], by simp [results, Tryd.results32, go_sem], rfl, rfl, rfl⟩
  cases c₀
  simp_all
theorem leaves_ret {P : Program} {fn : Func} {tmps : Array Value} {R : Ending → World → Prop} {w : World} {v : Value} (h : (results fn tmps).run P w = .ok v w) (hr : R (.returned v) w) : Leaves P fn tmps R [] .returning w := ⟨v, h, hr⟩
def envOutV (r : Ev × Int) : Value := .agg #[.int .i64 r.1.g, .int .i64 r.1.n, .int .i64 r.1.m, .int .i64 r.1.x, .string r.1.t, .int .i64 r.2]
theorem openS_is {s : ByteArray} (h : (openS s).2.2 = 0) : openS s = ((openS s).1, 0, 0) := Prod.ext rfl (Prod.ext (openS_at s) h)
theorem openS_fits {s : ByteArray} (h : (openS s).2.2 = 0) : (openS s).1.size ≤ 8000 := by
  unfold openS at h ⊢
  split at h
  · exact absurd h (by decide)
  · rename_i h1
    split at h
    · exact absurd h (by decide)
    · rename_i h2
      rw [if_neg h1, if_neg h2]
      unfold unsS
      split
      · dsimp only
        unfold bodyS
        rw [ByteArray.size_extract]
        omega
      · exact Nat.zero_le _
set_option maxRecDepth 100000 in
set_option maxHeartbeats 1600000 in
theorem implEnvRead_any (s : ByteArray) (w : World) (hs : s.size ≤ maxLen) (hg : ET w) :
    Calls Tryd.prog 8 #[.string s] w fun e w' => e = .returned (envOutV (readE s)) ∧ Below w.heap.size w w' := by
  have hmf : ∀ (fn : Fn) (first cap : Array Value) (u : World), (Instr.makeFunc fn first cap).run Tryd.prog u = .ok (.func fn first cap) u := fun _ _ _ _ => rfl
  obtain ⟨W, hW⟩ : ∃ W, W = w.alloc (.cells #[.int .i64 0, .int .i64 0, .int .i64 0, .int .i64 0, .string ⟨#[]⟩, .int .i64 0] 29) := ⟨_, rfl⟩
  obtain ⟨h, hh⟩ : ∃ h, h = w.heap.size := ⟨_, rfl⟩
  have HO0 : Hid (W.ownsRow h 29 6 (.slice (some ⟨h, 0, none⟩) 1 1) 1 [.int .i64 0, .int .i64 0, .int .i64 0, .int .i64 0, .string ⟨#[]⟩, .int .i64 0]) := Lib.hid (by
    rw [hW, hh]
    exact World.ownsRow_lit w #[.int .i64 0, .int .i64 0, .int .i64 0, .int .i64 0, .string ⟨#[]⟩, .int .i64 0] 1 (Nat.le_refl _) (by decide) rfl)
  have HB0 : Hid (Below h w W) := Lib.hid (by rw [hW, hh]; exact (Below.refl _ _).alloc (Nat.le_refl _) _)
  have HG0 : Hid (ET W) := Lib.hid (by rw [hW]; exact hg.alloc _)
  have HHE := Lib.hid hh
  clear hg
  by_cases hc : (openS s).2.2 = 0
  · have HI := Lib.hid (openS_is hc)
    have hf8 := openS_fits hc
    have HOK := Lib.hid (readE_ok (s := s) hc)
    have HBAD := Lib.hid (readE_bad (s := s) hc)
    generalize (openS s).1 = t at *
    clear hc
    go_enter_defers Tryd.func8, Tryd.ntmps8
    go_wp2_with fail
    rw [← hW, ← hh]
    clear hW hh
    refine (unsealed_ok s t _ hs HG0.out HI.out).mono ?_
    rintro e w1 ⟨rfl, hb⟩
    have HO1 := Lib.hid (own_below HO0.out hb)
    have HB1 := Lib.hid (HB0.out.trans (hb.mono (by have := (HO0.out.lt h rfl).2; omega)))
    clear hb
    go_wp2_with fail
    refine (envIn_any t _ hf8).mono ?_
    cases hk : rdOk t
    · rintro e w2 ⟨hE, hb⟩
      rw [if_neg (by rw [hk]; decide)] at hE
      subst hE
      have HF := Lib.hid (HBAD.out hk)
      have HO2 := Lib.hid (own_below HO1.out hb)
      have HB2 := Lib.hid (HB1.out.trans (hb.mono (by have := (HO1.out.lt h rfl).2; omega)))
      clear hb hk
      go_wp2_with fail
      refine leaves_cons (f := 32) (args := #[.pointer (some ⟨h, 0, none⟩)]) (by simp) (by simp [go_sem]) ?_
      refine (catch_panicking h 3 w2 HO2.out).mono ?_
      rintro e u' w3 ⟨rfl, rfl, r0, r1, r2, r3, r4, r5, hb3⟩
      have hbl := HB2.out.trans hb3
      rw [HHE.out] at hbl
      exact leaves_ret (v := .agg #[.int .i64 0, .int .i64 0, .int .i64 0, .int .i64 0, .string ⟨#[]⟩, .int .i64 3]) (by simp [results, Tryd.results8, go_sem, r0, r1, r2, r3, r4, r5]) ⟨by rw [HF.out]; rfl, hbl⟩
    · rintro e w2 ⟨hE, hb⟩
      rw [if_pos hk] at hE
      subst hE
      have HF := Lib.hid (HOK.out hk)
      have HO2 := Lib.hid (own_below HO1.out hb)
      have HB2 := Lib.hid (HB1.out.trans (hb.mono (by have := (HO1.out.lt h rfl).2; omega)))
      clear hb hk
      generalize rdEnv t = E at *
      obtain ⟨g, n, m, x, t'⟩ := E
      dsimp only
      have q0 : w2.cell? ⟨h, 0, none⟩ = some (.int .i64 0) := by rw [HO2.out.cellAt 0 (by decide)]; rfl
      have q1 : w2.cell? ⟨h, 1, none⟩ = some (.int .i64 0) := by rw [HO2.out.cellAt 1 (by decide)]; rfl
      have q2 : w2.cell? ⟨h, 2, none⟩ = some (.int .i64 0) := by rw [HO2.out.cellAt 2 (by decide)]; rfl
      have q3 : w2.cell? ⟨h, 3, none⟩ = some (.int .i64 0) := by rw [HO2.out.cellAt 3 (by decide)]; rfl
      have q4 : w2.cell? ⟨h, 4, none⟩ = some (.string ⟨#[]⟩) := by rw [HO2.out.cellAt 4 (by decide)]; rfl
      have q5 : w2.cell? ⟨h, 5, none⟩ = some (.int .i64 0) := by rw [HO2.out.cellAt 5 (by decide)]; rfl
      have f0 := HO2.out.frozenAt 0
      have f1 := HO2.out.frozenAt 1
      have f2 := HO2.out.frozenAt 2
      have f3 := HO2.out.frozenAt 3
      have f4 := HO2.out.frozenAt 4
      have f5 := HO2.out.frozenAt 5
      have HP := Lib.hid (put6 (v0 := .int .i64 g) (v1 := .int .i64 n) (v2 := .int .i64 m) (v3 := .int .i64 x) (v4 := .string t') (v5 := .int .i64 0) q0 q1 q2 q3 q4 q5)
      have HB7 := Lib.hid ((((((HB2.out.setCell (p := ⟨h, 0, none⟩) (Nat.le_refl _) (.int .i64 g)).setCell (p := ⟨h, 1, none⟩) (Nat.le_refl _) (.int .i64 n)).setCell (p := ⟨h, 2, none⟩) (Nat.le_refl _) (.int .i64 m)).setCell (p := ⟨h, 3, none⟩) (Nat.le_refl _) (.int .i64 x)).setCell (p := ⟨h, 4, none⟩) (Nat.le_refl _) (.string t')).setCell (p := ⟨h, 5, none⟩) (Nat.le_refl _) (.int .i64 0))
      go_wp2_with fail
      refine leaves_cons (f := 32) (args := #[.pointer (some ⟨h, 0, none⟩)]) (by simp) (by simp [go_sem]) ?_
      refine (catch_idle h _).mono ?_
      rintro e u' w3 ⟨rfl, rfl, rfl⟩
      obtain ⟨r0, r1, r2, r3, r4, r5⟩ := HP.out
      have hbl := HB7.out
      rw [HHE.out] at hbl r0  r1  r2  r3  r4  r5
      refine leaves_ret (v := .agg #[.int .i64 g, .int .i64 n, .int .i64 m, .int .i64 x, .string t', .int .i64 0]) ?_ ⟨by rw [HF.out]; rfl, ?_⟩
      · rw [HHE.out]; simp [results, Tryd.results8, go_sem, r0, r1, r2, r3, r4, r5]
      · rw [HHE.out]; exact hbl
  · have HF := Lib.hid (readE_code (s := s) hc)
    obtain ⟨c, hcc⟩ : ∃ c, c = (openS s).2.2 := ⟨_, rfl⟩
    rw [← hcc] at HF
    have HCC := Lib.hid hcc
    clear hcc
    go_enter_defers Tryd.func8, Tryd.ntmps8
    go_wp2_with fail
    rw [← hW, ← hh]
    clear hW hh
    refine (unsealed_bad s _ hs HG0.out hc).mono ?_
    rintro e w1 ⟨rfl, hb⟩
    have HO1 := Lib.hid (own_below HO0.out hb)
    have HB1 := Lib.hid (HB0.out.trans (hb.mono (by have := (HO0.out.lt h rfl).2; omega)))
    rw [← HCC.out]
    clear hb hc
    go_wp2_with fail
    refine leaves_cons (f := 32) (args := #[.pointer (some ⟨h, 0, none⟩)]) (by simp) (by simp [go_sem]) ?_
    refine (catch_panicking h c w1 HO1.out).mono ?_
    rintro e u' w3 ⟨rfl, rfl, r0, r1, r2, r3, r4, r5, hb3⟩
    have hbl := HB1.out.trans hb3
    rw [HHE.out] at hbl
    exact leaves_ret (v := .agg #[.int .i64 0, .int .i64 0, .int .i64 0, .int .i64 0, .string ⟨#[]⟩, .int .i64 c]) (by simp [results, Tryd.results8, go_sem, r0, r1, r2, r3, r4, r5]) ⟨by rw [HF.out]; rfl, hbl⟩
end Go.Proofs.YtdnbkjiijpeiiaaDoor
