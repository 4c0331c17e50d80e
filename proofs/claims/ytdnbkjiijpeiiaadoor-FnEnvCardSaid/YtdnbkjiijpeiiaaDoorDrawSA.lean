/- What the model's draws of chapter 5 answer: a secret, how many are needed, how many there are, draws. -/
import Derived.Test.YtdnbkjiijpeiiaaDoorDrawPA
import Derived.Test.YtdnbkjiijpeiiaaDoorSSp3
import Derived.Test.YtdnbkjiijpeiiaaDoorHShB
namespace Go.Proofs.YtdnbkjiijpeiiaaDoor
open Go.RowKit Go.PlainAid G MGF IRow
set_option linter.unusedVariables false
theorem DrawnC.trans {a b c : World} {p cb co sl sc : Nat} {sa : Option Addr} (h : DrawnC a b p cb co sl sc sa) (k : DrawnC b c p cb co sl sc sa) : DrawnC a c p cb co sl sc sa := ⟨k.src, grownBy_trans h.gr k.gr⟩
theorem DrawnC.below {a b c : World} {p cb co sl sc : Nat} {sa : Option Addr} (h : DrawnC a b p cb co sl sc sa) (k : Below b.heap.size b c) : DrawnC a c p cb co sl sc sa := ⟨h.src.below k, grown_below h.gr k⟩
set_option maxRecDepth 100000 in
set_option maxHeartbeats 1600000 in
theorem bytes_c (p cb co sl sc : Nat) (sa : Option Addr) (n : Int) (w : World) (hSC : SrcC w p cb co sl sc sa) (hn : n ≤ 1000000) :
    Calls Tryd.prog 30 #[.pointer (some ⟨p, 0, none⟩), .int .i64 n] w fun e w' => ∃ x : ByteArray, e = .returned (.string x) ∧ (x.size : Int) ≤ max n 0 ∧ DrawnC w w' p cb co sl sc sa := by
  have hp := hSC.lt
  have hcb := hSC.code
  obtain ⟨i0, hi, hz0, hz1, hz2⟩ := info_parts infoU8
  go_enter Tryd.func30, Tryd.ntmps30
  go_wp2_with fail
  go_loopw [5, 6] (fun v i wr => ∃ (zs : List Int), i = .int .i64 zs.length ∧ (zs.length : Int) ≤ max n 0 ∧ wr.ownsRow w.heap.size 5 1 v zs.length (zs.map (Value.int .u8)) ∧ SrcC wr p cb co sl sc sa ∧ w.grownBy wr (some p)) (fun _ i _ => n.toNat - (intOf i).toNat)
  case atStart => exact ⟨[], rfl, by simp; omega, World.ownsRow_made w #[] 0 (Nat.le_refl _) (by decide) rfl, hSC.kept (Below.heap_alloc _ _ _ hp) (fun h => Below.heap_alloc _ _ _ (hcb h)), World.grownBy_alloc _ _ _⟩
  case round =>
    obtain ⟨zs, rfl, hl, hown, hS1, hgr⟩ := hrel
    have hsz := hgr.size
    by_cases hlt : (zs.length : Int) < n
    · go_wp2_with fail
      refine (n_c p cb co sl sc sa 256 wr hS1 (by omega)).mono ?_
      rintro e w2 ⟨r, rfl, r0, r1, hS2, hg2, hz2'⟩
      have hr : r ≤ 255 := by omega
      clear r1
      have hown2 : w2.ownsRow w.heap.size 5 1 u5 zs.length (zs.map (Value.int .u8)) := hown.kept hg2 (Or.inr (fun h => by have := (hown.lt p h).1; omega))
      have HG2 : Hid (w.grownBy w2 (some p)) := grownBy_trans hgr hg2
      have HS2 := Lib.hid hS2
      have hlo := hown2.lt
      have HLO := Lib.hid hlo; clear hlo
      have hsz2 : w.heap.size ≤ w2.heap.size := by omega
      clear hown hgr hS1 hg2 hz2' hsz hS2
      go_wp2_with (at_builtin; refine append_one_g rfl (.tmp 13) (.tmp 17) 22 rfl 5 i0 (.int .u8 0) 1 Tryd.underlying22 hi hz0 hz1 hz2 rfl w.heap.size _ _ _ rfl hown2 (.int .u8 r) _ rfl rfl hsz2 (by unfold maxLen; omega) (by omega) ?_; intro v' w3 hown3 hg3; have hown4 : w3.ownsRow w.heap.size 5 1 v' (zs ++ [r]).length ((zs ++ [r]).map (Value.int .u8)) := (by simpa using hown3); have HG3 : Hid (w2.grownBy w3 u5.ownBlock) := hg3; clear hown3 hown2 hg3)
      go_roundw
      case rel =>
        refine ⟨zs ++ [r], by simp, by simp; omega, hown4, HS2.out.kept (HG3.out.block p (by omega) (fun h => by have := (HLO.out p h.symm).1; omega)) (fun h => HG3.out.block cb (by have := hcb h; omega) (fun h' => by have := (HLO.out cb h'.symm).1; have := hcb h; omega)), grown_own HG2.out HG3.out (fun g hg => (HLO.out g hg).1)⟩
      case measure => simp [intOf]; omega
    · have hcv := conv_owned 22 9 5 Tryd.underlying22 Tryd.underlying5 Tryd.underlying9 _ _ _ _ hown
      have HF : Hid (DrawnC w wr p cb co sl sc sa) := ⟨hS1, hgr⟩
      have HL := Lib.hid hl
      clear hown hgr hS1 hl
      go_wp2_with fail
      go_ret
      exact ⟨_, rfl, by rw [strOfNums_size]; exact HL.out, HF.out⟩
theorem secretOf_c (p cb co sl sc : Nat) (sa : Option Addr) (w : World) (hS : SrcC w p cb co sl sc sa) :
    Calls Tryd.prog 59 #[.pointer (some ⟨p, 0, none⟩)] w fun e w' => ∃ x : ByteArray, e = .returned (.string x) ∧ x.size ≤ 5 ∧ DrawnC w w' p cb co sl sc sa := by
  go_enter Tryd.func59, Tryd.ntmps59
  go_wp2_with fail
  refine (n_c p cb co sl sc sa 5 w hS (by omega)).mono ?_
  rintro e w1 ⟨r, rfl, r0, r1, hS1, hg, hz⟩
  have hr : r ≤ 4 := by omega
  have HD := Lib.hid (⟨hS1, hg⟩ : DrawnC w w1 p cb co sl sc sa)
  clear r1 hg hz hS1
  have hw1 : IntKind.i64.wrap (1 + r) = 1 + r := by rw [IntWalk.i64_in _ (by omega)]
  go_wp2_with fail
  refine (bytes_c p cb co sl sc sa (1 + r) w1 HD.out.src (by omega)).mono ?_
  rintro e w2 ⟨x, rfl, hx, hD⟩
  have HX : Hid (x.size ≤ 5) := Lib.hid (by omega)
  have HD2 := Lib.hid (HD.out.trans hD)
  clear hx hD
  go_wp2_with fail
  go_ret
  exact ⟨_, rfl, HX.out, HD2.out⟩
/-- A secret, how many are needed, how many there are, and draws. -/
def AllC (w : World) (p cb co sl sc : Nat) (sa : Option Addr) (e : Ending) (w' : World) : Prop :=
  ∃ (s d : ByteArray) (need many : Int), e = .returned (.tuple #[.string s, .int .i64 need, .int .i64 many, .string d]) ∧ s.size ≤ 17 ∧ d.size ≤ 200 ∧ 0 ≤ need ∧ need ≤ 11 ∧ 0 ≤ many ∧ many ≤ 21 ∧ DrawnC w w' p cb co sl sc sa
theorem lit_cells (w : World) (cs : Array Value) (t : TypeId) {w' : World} {p : Nat} (hp : p < w.heap.size) (hg : (w.alloc (.cells cs t)).grownBy w' (some p)) (i : Nat) : w'.cell? ⟨w.heap.size, i, none⟩ = cs[i]? := by
  rw [World.cell?_of_block (w := w.alloc (.cells cs t)) (a := ⟨w.heap.size, i, none⟩) (hg.block w.heap.size (by simp) (by simp; omega))]
  exact World.cell?_alloc_new w _ _ i
theorem needs_le (s : ByteArray) (need : Int) (hs : s.size ≤ 5) (h1 : 1 ≤ need) (h2 : need ≤ 5) : -1 ≤ needsI s need ∧ needsI s need ≤ 144 := by
  by_cases h : secB s = true ∧ needB need = true
  · have := needs_bound h.1 h.2
    rw [needsI_yes h.1 h.2]
    omega
  · rw [needsI_no h]; omega
set_option maxRecDepth 100000 in
set_option maxHeartbeats 6400000 in
theorem all_c (p cb co sl sc : Nat) (sa : Option Addr) (w : World) (hS : SrcC w p cb co sl sc sa) :
    Calls Tryd.prog 36 #[.pointer (some ⟨p, 0, none⟩)] w (AllC w p cb co sl sc sa) := by
  have hp := hS.lt
  obtain ⟨i0, hi, hz0, hz1, hz2⟩ := info_parts infoU8
  go_enter Tryd.func36, Tryd.ntmps36
  go_wp2_with fail
  refine (secretOf_c p cb co sl sc sa w hS).mono ?_
  rintro e w1 ⟨s, rfl, hs, hD⟩
  have HD1 := Lib.hid hD
  clear hD hS
  go_wp2_with fail
  refine (n_c p cb co sl sc sa 5 _ HD1.out.src (by omega)).mono ?_
  rintro e w2 ⟨r, rfl, r0, r1, hS1, hg, hz⟩
  have hr : r ≤ 4 := by omega
  have HD2 := Lib.hid (HD1.out.trans ⟨hS1, hg⟩)
  clear r1 hg hz hS1 HD1
  have hw1 : IntKind.i64.wrap (1 + r) = 1 + r := by rw [IntWalk.i64_in _ (by omega)]
  go_wp2_with fail
  obtain ⟨need, hnd⟩ : ∃ n, n = 1 + r := ⟨_, rfl⟩
  rw [← hnd]
  have hn1 : 1 ≤ need := by omega
  have hn2 : need ≤ 5 := by omega
  clear hw1 hnd r0 hr
  refine (n_c p cb co sl sc sa 4 _ HD2.out.src (by omega)).mono ?_
  rintro e w3 ⟨q, rfl, q0, q1, hS1, hg, hz⟩
  have hq : q ≤ 3 := by omega
  have HD3 := Lib.hid (HD2.out.trans ⟨hS1, hg⟩)
  clear q1 hg hz hS1 HD2
  have hw1 : IntKind.i64.wrap (need + q) = need + q := by rw [IntWalk.i64_in _ (by omega)]
  go_wp2_with fail
  refine (specNeeds_any s need _ (by unfold maxLen; omega)).mono ?_
  rintro e w4 ⟨rfl, rfl⟩
  obtain ⟨hb0, hb1⟩ := needs_le s need hs hn1 hn2
  generalize needsI s need = nd at *
  obtain ⟨many, hmn⟩ : ∃ n, n = need + q := ⟨_, rfl⟩
  rw [← hmn]
  have hm1 : 0 ≤ many := by omega
  have hm2 : many ≤ 8 := by omega
  clear hw1 hmn q0 hq
  go_wp2_with fail
  refine (n_c p cb co sl sc sa 3 _ HD3.out.src (by omega)).mono ?_
  rintro e w5 ⟨q, rfl, q0, q1, hS1, hg, hz⟩
  have hq : q ≤ 2 := by omega
  have HD5 := Lib.hid (HD3.out.trans ⟨hS1, hg⟩)
  clear q1 hg hz hS1 HD3
  have hw1 : IntKind.i64.wrap (nd + q) = nd + q := by rw [IntWalk.i64_in _ (by omega)]
  go_wp2_with fail
  refine (bytes_c p cb co sl sc sa (nd + q) _ HD5.out.src (by omega)).mono ?_
  rintro e w6 ⟨d, rfl, hd, hD⟩
  have hd2 : d.size ≤ 146 := by omega
  have HD6 := Lib.hid (HD5.out.trans hD)
  clear hw1 hd hD q0 hq HD5 hb0 hb1
  go_wp2_with fail
  refine (n_c p cb co sl sc sa 15 _ HD6.out.src (by omega)).mono ?_
  rintro e w7 ⟨x, rfl, x0, x1, hS1, hg, hz⟩
  have HD7 := Lib.hid (HD6.out.trans ⟨hS1, hg⟩)
  have hx : x ≤ 14 := by omega
  have hp7 : p < w7.heap.size := Nat.lt_of_lt_of_le hp HD7.out.gr.size
  clear x1 hg hz hS1 HD6
  by_cases h0 : x = 0
  · subst h0
    go_wp2_with fail
    have hS8 := HD7.out.src.below ((Below.refl w7.heap.size w7).alloc (Nat.le_refl _) (.cells #[.int .i64 0, .int .i64 10, .int .i64 11] 2))
    refine (n_c p cb co sl sc sa 3 _ hS8 (by omega)).mono ?_
    rintro e w8 ⟨q, rfl, q0, q1, hS9, hg, hz⟩
    have hcl := lit_cells w7 _ _ hp7 hg
    have HD8 := Lib.hid ((HD7.out.below ((Below.refl w7.heap.size w7).alloc (Nat.le_refl _) (.cells #[.int .i64 0, .int .i64 10, .int .i64 11] 2))).trans ⟨hS9, hg⟩)
    have hq : q = 0 ∨ q = 1 ∨ q = 2 := by omega
    clear hS8 hS9 hg hz q0 q1
    have h0 := hcl 0
    have h1 := hcl 1
    have h2 := hcl 2
    simp only [List.getElem?_toArray, List.getElem?_cons_zero, List.getElem?_cons_succ] at h0 h1 h2
    clear hcl
    rcases hq with rfl | rfl | rfl
    all_goals
      go_wp2_with fail
      exact bodyPost_ret (v := .tuple #[.string s, .int .i64 _, .int .i64 many, .string d]) (by simp [results, Tryd.results36, go_sem] <;> rfl) rfl ⟨s, d, _, many, rfl, by omega, by omega, by omega, by omega, by omega, by omega, HD8.out⟩
  · by_cases h1 : x = 1
    · subst h1
      go_wp2_with fail
      have hS8 := HD7.out.src.below ((Below.refl w7.heap.size w7).alloc (Nat.le_refl _) (.cells #[.int .i64 0, .int .i64 20, .int .i64 21] 2))
      refine (n_c p cb co sl sc sa 3 _ hS8 (by omega)).mono ?_
      rintro e w8 ⟨q, rfl, q0, q1, hS9, hg, hz⟩
      have hcl := lit_cells w7 _ _ hp7 hg
      have HD8 := Lib.hid ((HD7.out.below ((Below.refl w7.heap.size w7).alloc (Nat.le_refl _) (.cells #[.int .i64 0, .int .i64 20, .int .i64 21] 2))).trans ⟨hS9, hg⟩)
      have hq : q = 0 ∨ q = 1 ∨ q = 2 := by omega
      clear hS8 hS9 hg hz q0 q1
      have h0 := hcl 0
      have h1 := hcl 1
      have h2 := hcl 2
      simp only [List.getElem?_toArray, List.getElem?_cons_zero, List.getElem?_cons_succ] at h0 h1 h2
      clear hcl
      rcases hq with rfl | rfl | rfl
      all_goals
        go_wp2_with fail
        exact bodyPost_ret (v := .tuple #[.string s, .int .i64 need, .int .i64 _, .string d]) (by simp [results, Tryd.results36, go_sem] <;> rfl) rfl ⟨s, d, need, _, rfl, by omega, by omega, by omega, by omega, by omega, by omega, HD8.out⟩
    · by_cases h2 : x = 2
      · subst h2
        have hw1 : IntKind.i64.wrap ((d.size : Int) + 1) = (d.size : Int) + 1 := by rw [IntWalk.i64_in _ (by omega)]
        go_wp2_with fail
        refine (n_c p cb co sl sc sa ((d.size : Int) + 1) _ HD7.out.src (by omega)).mono ?_
        rintro e w8 ⟨q, rfl, q0, q1, hS9, hg, hz⟩
        have HD8 := Lib.hid (HD7.out.trans ⟨hS9, hg⟩)
        obtain ⟨k, rfl⟩ := Int.eq_ofNat_of_zero_le q0
        have hk : k ≤ d.size := by omega
        have hk2 : (k : Int) ≤ (d.size : Int) := by omega
        have hx2 : (d.extract 0 k).size ≤ 200 := by rw [ByteArray.size_extract]; omega
        have HX2 := Lib.hid hx2
        clear hS9 hg hz q0 q1 hx2
        go_wp2_with fail
        exact bodyPost_ret (v := .tuple #[.string s, .int .i64 need, .int .i64 many, .string _]) (by simp [results, Tryd.results36, go_sem] <;> rfl) rfl ⟨s, _, need, many, rfl, by omega, HX2.out, by omega, by omega, by omega, by omega, HD8.out⟩
      · by_cases h3 : x = 3
        · subst h3
          go_wp2_with fail
          refine (n_c p cb co sl sc sa 2 _ HD7.out.src (by omega)).mono ?_
          rintro e w8 ⟨q, rfl, q0, q1, hS9, hg, hz⟩
          have HD8 := Lib.hid (HD7.out.trans ⟨hS9, hg⟩)
          have hq : q = 0 ∨ q = 1 := by omega
          clear hS9 hg hz q0 q1
          have hwq : IntKind.i64.wrap (16 * q) = 16 * q := by rw [IntWalk.i64_in _ (by omega)]
          go_wp2_with fail
          refine (n_c p cb co sl sc sa 2 _ HD8.out.src (by omega)).mono ?_
          rintro e w9 ⟨u, rfl, q0, q1, hS9, hg, hz⟩
          have HD9 := Lib.hid (HD8.out.trans ⟨hS9, hg⟩)
          have hu : u = 0 ∨ u = 1 := by omega
          clear hS9 hg hz q0 q1
          obtain ⟨m, hm⟩ := Int.eq_ofNat_of_zero_le (show 0 ≤ 16 * q + u by omega)
          have hwu : IntKind.i64.wrap (16 * q + u) = (m : Int) := by rw [hm, IntWalk.i64_in _ (by omega)]
          have hm17 : m ≤ 17 := by omega
          clear hm hq hu
          go_wp2_with (at_make; refine wpList_make_full _ rfl (.tmp 59) (.tmp 59) 22 rfl w9.heap.size 5 i0 (.int .u8 0) 1 Tryd.underlying22 hi hz0 hz1 .i64 .i64 _ _ m rfl rfl rfl rfl (by rw [hz2]; omega) (by unfold maxLen; omega) (Nat.le_refl _) ?_; intro w10 hown hg; rw [made_zero] at hown; have hcv := conv_owned (P := Tryd.prog) 22 9 5 Tryd.underlying22 Tryd.underlying5 Tryd.underlying9 w9.heap.size _ _ _ hown; have HD10 := Lib.hid (HD9.out.below (below_of_none hg)); clear hown hg)
          exact bodyPost_ret (v := .tuple #[.string _, .int .i64 need, .int .i64 many, .string d]) (by simp [results, Tryd.results36, go_sem] <;> rfl) rfl ⟨_, d, need, many, rfl, by rw [strOfNums_size, List.length_replicate]; exact hm17, by omega, by omega, by omega, by omega, by omega, HD10.out⟩
        · go_wp2_with fail
          exact bodyPost_ret (v := .tuple #[.string s, .int .i64 need, .int .i64 many, .string d]) (by simp [results, Tryd.results36, go_sem]) rfl ⟨s, d, need, many, rfl, by omega, by omega, by omega, by omega, by omega, by omega, HD7.out⟩
def SomeFour (w : World) (e : Ending) (w' : World) : Prop := ∃ (s d : ByteArray) (need many : Int), e = .returned (.tuple #[.string s, .int .i64 need, .int .i64 many, .string d]) ∧ s.size ≤ 17 ∧ d.size ≤ 200 ∧ 0 ≤ need ∧ need ≤ 11 ∧ 0 ≤ many ∧ many ≤ 21 ∧ Below w.heap.size w w'
def SomeNeeds (w : World) (e : Ending) (w' : World) : Prop := ∃ (s : ByteArray) (need : Int), e = .returned (.tuple #[.string s, .int .i64 need]) ∧ s.size ≤ 17 ∧ Below w.heap.size w w'
/-- What Hide is asked for, drawn. -/
def SomeHide (w : World) (e : Ending) (w' : World) : Prop := ∃ (s o d : ByteArray) (need : Int) (a : Option Addr) (k c : Nat) (zs : List Int), e = .returned (.tuple #[.string s, .string o, .int .i64 need, .slice a k c, .string d]) ∧ s.size ≤ 17 ∧ o.size ≤ 18 ∧ d.size ≤ 200 ∧ zs.length ≤ 101 ∧ w'.ownsRow w.heap.size 2 1 (.slice a k c) k (zs.map (Value.int .i64)) ∧ Below w.heap.size w w'
end Go.Proofs.YtdnbkjiijpeiiaaDoor
