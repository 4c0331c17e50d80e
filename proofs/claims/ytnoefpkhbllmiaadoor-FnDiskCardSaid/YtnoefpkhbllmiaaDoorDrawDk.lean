/- The model's draws of disks. -/
import Derived.Test.YtnoefpkhbllmiaaDoorDrawA
import Derived.Test.YtnoefpkhbllmiaaDoorDskD
namespace Go.Proofs.YtnoefpkhbllmiaaDoor
open Go.RowKit Go.PlainAid G
set_option linter.unusedVariables false
theorem SrcC.grown {w w' : World} {p cb co sl sc : Nat} {sa : Option Addr} {row : Option Nat} {B : Nat} (h : SrcC w p cb co sl sc sa) (hp : p < B) (hcb : 0 < sl → cb < B) (hg : w.grownBy w' row) (hr : ∀ k, row = some k → B ≤ k) : SrcC w' p cb co sl sc sa :=
  h.kept (hg.block p h.lt (fun e => by have := hr p e.symm; omega)) (fun hs => hg.block cb (h.code hs) (fun e => by have := hr cb e.symm; have := hcb hs; omega))
theorem SrcC.below {w w' : World} {p cb co sl sc : Nat} {sa : Option Addr} (h : SrcC w p cb co sl sc sa) (hb : Below w.heap.size w w') : SrcC w' p cb co sl sc sa :=
  h.kept (hb.block p h.lt) (fun hs => hb.block cb (h.code hs))
theorem grown_below {w wr w' : World} {p : Nat} (h : w.grownBy wr (some p)) (k : Below wr.heap.size wr w') : w.grownBy w' (some p) :=
  grown_own h (row := none) ⟨k.os, k.tape, k.output, k.size, fun i hi _ => k.block i hi⟩ (fun g hg => by cases hg)
theorem own_drawn {w w' : World} {B p : Nat} {e : TypeId} {size : Nat} {v : Value} {n : Nat} {xs : List Value} (h : w.ownsRow B e size v n xs) (hg : w.grownBy w' (some p)) (hp : p < B) : w'.ownsRow B e size v n xs :=
  h.kept hg (Or.inr (fun e => by have := (h.lt p e).1; omega))
/-- What a draw leaves, told with the source's own bytes. -/
structure DrawnC (w w' : World) (p cb co sl sc : Nat) (sa : Option Addr) : Prop where
  src : SrcC w' p cb co sl sc sa
  gr : w.grownBy w' (some p)
theorem DrawnC.drawn {w w' : World} {p cb co sl sc : Nat} {sa : Option Addr} (h : DrawnC w w' p cb co sl sc sa) : Drawn w w' p := ⟨⟨cb, co, sl, sc, sa, h.src⟩, h.gr⟩
set_option maxRecDepth 100000 in
theorem one_c (p cb co sl sc : Nat) (sa : Option Addr) (most : Int) (w : World) (hS : SrcC w p cb co sl sc sa) (hm : most ≤ 9223372036854775807) :
    Calls Tryd.prog 24 #[.pointer (some ⟨p, 0, none⟩), .int .i64 most] w fun e w' => ∃ b : Bool, e = .returned (.bool b) ∧ DrawnC w w' p cb co sl sc sa ∧ w'.heap.size = w.heap.size := by
  go_enter Tryd.func24, Tryd.ntmps24
  go_wp2_with fail
  refine (n_c p cb co sl sc sa most w hS hm).mono ?_
  rintro e w1 ⟨r, rfl, r0, r1, hS1, hg, hz⟩
  have HP := Lib.hid (⟨⟨hS1, hg⟩, hz⟩ : DrawnC w w1 p cb co sl sc sa ∧ w1.heap.size = w.heap.size)
  clear r1 hS1 hg hz
  go_wp2_with fail
  go_ret
  exact ⟨_, rfl, HP.out.1, HP.out.2⟩
theorem DrawnC.trans {a b c : World} {p cb co sl sc : Nat} {sa : Option Addr} (h : DrawnC a b p cb co sl sc sa) (k : DrawnC b c p cb co sl sc sa) : DrawnC a c p cb co sl sc sa := ⟨k.src, grownBy_trans h.gr k.gr⟩
theorem DrawnC.below {a b c : World} {p cb co sl sc : Nat} {sa : Option Addr} (h : DrawnC a b p cb co sl sc sa) (k : Below b.heap.size b c) : DrawnC a c p cb co sl sc sa := ⟨h.src.below k, grown_below h.gr k⟩
set_option maxRecDepth 100000 in
set_option maxHeartbeats 1600000 in
theorem bytes_c (p cb co sl sc : Nat) (sa : Option Addr) (n : Int) (w : World) (hSC : SrcC w p cb co sl sc sa) (hn : n ≤ 1000000) :
    Calls Tryd.prog 19 #[.pointer (some ⟨p, 0, none⟩), .int .i64 n] w fun e w' => ∃ x : ByteArray, e = .returned (.string x) ∧ (x.size : Int) ≤ max n 0 ∧ DrawnC w w' p cb co sl sc sa := by
  have hp := hSC.lt
  have hcb := hSC.code
  obtain ⟨i0, hi, hz0, hz1, hz2⟩ := info_parts infoU8
  go_enter Tryd.func19, Tryd.ntmps19
  go_wp2_with fail
  go_loopw [5, 6] (fun v i wr => ∃ (zs : List Int), i = .int .i64 zs.length ∧ (zs.length : Int) ≤ max n 0 ∧ wr.ownsRow w.heap.size 5 1 v zs.length (zs.map (Value.int .u8)) ∧ SrcC wr p cb co sl sc sa ∧ w.grownBy wr (some p)) (fun _ i _ => n.toNat - (intOf i).toNat)
  case atStart => exact ⟨[], rfl, by simp; omega, World.ownsRow_made w #[] 0 (Nat.le_refl _) (by decide) rfl, hSC.kept (Below.heap_alloc _ _ _ hp) (fun h => Below.heap_alloc _ _ _ (hcb h)), World.grownBy_alloc _ _ _⟩
  case round =>
    obtain ⟨zs, rfl, hl, hown, hS1, hgr⟩ := hrel
    have hsz := hgr.size
    by_cases hlt : (zs.length : Int) < n
    · go_wp2_with fail
      refine (n_c p cb co sl sc sa 256 wr hS1 (by omega)).mono ?_
      rintro e w2 ⟨r, rfl, r0, r1, hS2, hg2, hz2'⟩
      have hr : r ≤ 255 := by omega
      clear r1
      have hown2 : w2.ownsRow w.heap.size 5 1 u5 zs.length (zs.map (Value.int .u8)) := hown.kept hg2 (Or.inr (fun h => by have := (hown.lt p h).1; omega))
      have HG2 : Hid (w.grownBy w2 (some p)) := grownBy_trans hgr hg2
      have HS2 := Lib.hid hS2
      have hlo := hown2.lt
      have HLO := Lib.hid hlo; clear hlo
      have hsz2 : w.heap.size ≤ w2.heap.size := by omega
      clear hown hgr hS1 hg2 hz2' hsz hS2
      go_wp2_with (at_builtin; refine append_one_g rfl (.tmp 13) (.tmp 17) 22 rfl 5 i0 (.int .u8 0) 1 Tryd.underlying22 hi hz0 hz1 hz2 rfl w.heap.size _ _ _ rfl hown2 (.int .u8 r) _ rfl rfl hsz2 (by unfold maxLen; omega) (by omega) ?_; intro v' w3 hown3 hg3; have hown4 : w3.ownsRow w.heap.size 5 1 v' (zs ++ [r]).length ((zs ++ [r]).map (Value.int .u8)) := (by simpa using hown3); have HG3 : Hid (w2.grownBy w3 u5.ownBlock) := hg3; clear hown3 hown2 hg3)
      go_roundw
      case rel =>
        refine ⟨zs ++ [r], by simp, by simp; omega, hown4, HS2.out.kept (HG3.out.block p (by omega) (fun h => by have := (HLO.out p h.symm).1; omega)) (fun h => HG3.out.block cb (by have := hcb h; omega) (fun h' => by have := (HLO.out cb h'.symm).1; have := hcb h; omega)), grown_own HG2.out HG3.out (fun g hg => (HLO.out g hg).1)⟩
      case measure => simp [intOf]; omega
    · have hcv := conv_owned 22 9 5 Tryd.underlying22 Tryd.underlying5 Tryd.underlying9 _ _ _ _ hown
      have HF : Hid (DrawnC w wr p cb co sl sc sa) := ⟨hS1, hgr⟩
      have HL := Lib.hid hl
      clear hown hgr hS1 hl
      go_wp2_with fail
      go_ret
      exact ⟨_, rfl, by rw [strOfNums_size]; exact HL.out, HF.out⟩
theorem grown_set (w : World) (b i : Nat) (v : Value) : w.grownBy (w.setCell ⟨b, i, none⟩ v) (some b) := grownBy_setCell w ⟨b, i, none⟩ v
theorem DrawnC.refl {w : World} {p cb co sl sc : Nat} {sa : Option Addr} (h : SrcC w p cb co sl sc sa) : DrawnC w w p cb co sl sc sa := ⟨h, World.grownBy.refl _ _⟩
theorem DrawnC.set {w u : World} {p cb co sl sc h i : Nat} {sa : Option Addr} {v : Value} (hD : DrawnC w u p cb co sl sc sa) (hp : p < w.heap.size) (hcb : 0 < sl → cb < w.heap.size) (hh : w.heap.size ≤ h) : DrawnC w (u.setCell ⟨h, i, none⟩ v) p cb co sl sc sa :=
  ⟨hD.src.grown hp hcb (grown_set u h i v) (fun k hk => by cases hk; exact hh), grown_own hD.gr (grown_set u h i v) (fun g hg => by cases hg; exact hh)⟩
theorem DkBox.grown {w w' : World} {b p : Nat} {s t : ByteArray} (h : DkBox w b s t) (hg : w.grownBy w' (some p)) (hne : b ≠ p) : DkBox w' b s t :=
  ⟨Nat.lt_of_lt_of_le h.lt hg.size, by rw [World.cell?_of_block (w := w) (a := ⟨b, 0, none⟩) (hg.block b h.lt (by intro h; injection h with h; exact hne h))]; exact h.c0, by rw [World.cell?_of_block (w := w) (a := ⟨b, 1, none⟩) (hg.block b h.lt (by intro h; injection h with h; exact hne h))]; exact h.c1⟩
theorem DkFree.grown {w w' : World} {b p : Nat} (h : DkFree w b) (hl : b < w.heap.size) (hg : w.grownBy w' (some p)) (hne : b ≠ p) : DkFree w' b :=
  ⟨(World.frozen?_of_block (w := w) (a := ⟨b, 0, none⟩) (hg.block b hl (by intro h; injection h with h; exact hne h))).trans h.f0, (World.frozen?_of_block (w := w) (a := ⟨b, 1, none⟩) (hg.block b hl (by intro h; injection h with h; exact hne h))).trans h.f1⟩
/-- A disk that is drawn. -/
def SomeDisk (w : World) (p cb co sl sc : Nat) (sa : Option Addr) (e : Ending) (w' : World) : Prop :=
  ∃ (s t : ByteArray), e = .returned (dkV (s, t)) ∧ s.size ≤ 3100 ∧ t.size ≤ 100 ∧ DrawnC w w' p cb co sl sc sa
set_option maxRecDepth 100000 in
set_option maxHeartbeats 3200000 in
theorem disk_c (p cb co sl sc : Nat) (sa : Option Addr) (w : World) (hS : SrcC w p cb co sl sc sa) :
    Calls Tryd.prog 21 #[.pointer (some ⟨p, 0, none⟩)] w (SomeDisk w p cb co sl sc sa) := by
  have hp := hS.lt
  have hcb := hS.code
  obtain ⟨W, hW⟩ : ∃ W, W = w.alloc (.cells #[.string ⟨#[]⟩, .string ⟨#[]⟩] 24) := ⟨_, rfl⟩
  obtain ⟨h, hh⟩ : ∃ h, h = w.heap.size := ⟨_, rfl⟩
  have HY0 := Lib.hid (show DkBox W h ⟨#[]⟩ ⟨#[]⟩ by rw [hW, hh]; exact ⟨by simp, by simp, by simp⟩)
  have HZ0 := Lib.hid (show DkFree W h by rw [hW, hh]; exact ⟨by simp, by simp⟩)
  have HD0 : Hid (DrawnC w W p cb co sl sc sa) := Lib.hid (by rw [hW]; exact (DrawnC.refl hS).below ((Below.refl _ _).alloc (Nat.le_refl _) _))
  have hne : h ≠ p := by omega
  have hhw : w.heap.size ≤ h := by omega
  clear hS
  go_enter Tryd.func21, Tryd.ntmps21
  go_wp2_with fail
  rw [← hW, ← hh]
  clear hW hh

  refine (n_c p cb co sl sc sa 6 _ HD0.out.src (by omega)).mono ?_
  rintro e w1 ⟨ra, rfl, r0, r1, hS1, hg, hz⟩
  have hra : ra ≤ 5 := by omega
  have hra0 := r0
  have HD1 := Lib.hid (HD0.out.trans ⟨hS1, hg⟩)
  have HY1 := Lib.hid (HY0.out.grown hg hne)
  have HZ1 := Lib.hid (HZ0.out.grown HY0.out.lt hg hne)
  clear r0 r1 hS1 hg hz HD0 HY0 HZ0
  go_wp2_with fail
  refine (bytes_c p cb co sl sc sa ra _ HD1.out.src (by omega)).mono ?_
  rintro e w2 ⟨s, rfl, hx, hD⟩
  have hs : s.size ≤ 5 := by omega
  have HD2 := Lib.hid (HD1.out.trans hD)
  have HY2 := Lib.hid (HY1.out.grown hD.gr hne)
  have HZ2 := Lib.hid (HZ1.out.grown HY1.out.lt hD.gr hne)
  clear hx hD HD1 HY1 HZ1 hra hra0
  go_wp2_with fail
  refine (n_c p cb co sl sc sa 6 _ HD2.out.src (by omega)).mono ?_
  rintro e w3 ⟨rb, rfl, r0, r1, hS1, hg, hz⟩
  have hrb : rb ≤ 5 := by omega
  have hrb0 := r0
  have HD3 := Lib.hid (HD2.out.trans ⟨hS1, hg⟩)
  have HY3 := Lib.hid (HY2.out.grown hg hne)
  have HZ3 := Lib.hid (HZ2.out.grown HY2.out.lt hg hne)
  clear r0 r1 hS1 hg hz HD2 HY2 HZ2
  go_wp2_with fail
  refine (bytes_c p cb co sl sc sa rb _ HD3.out.src (by omega)).mono ?_
  rintro e w4 ⟨t, rfl, hx, hD⟩
  have ht : t.size ≤ 5 := by omega
  have HD4 := Lib.hid (HD3.out.trans hD)
  have HY4 := Lib.hid (HY3.out.grown hD.gr hne)
  have HZ4 := Lib.hid (HZ3.out.grown HY3.out.lt hD.gr hne)
  clear hx hD HD3 HY3 HZ3 hrb hrb0
  obtain ⟨V, hV⟩ : ∃ V, V = w4.alloc (.cells #[.string s, .string t] 24) := ⟨_, rfl⟩
  obtain ⟨x, hx⟩ : ∃ x, x = w4.heap.size := ⟨_, rfl⟩
  have hb1 : Below w4.heap.size w4 V := by rw [hV]; exact (Below.refl _ _).alloc (Nat.le_refl _) _
  have HDV := Lib.hid (HD4.out.below hb1)
  have HYV := Lib.hid (HY4.out.below hb1)
  have HZV := Lib.hid (HZ4.out.below HY4.out.lt hb1)
  have HXV := Lib.hid (show DkBox V x s t by rw [hV, hx]; exact ⟨by simp, by simp, by simp⟩)
  have HFV := Lib.hid (show DkFree V x by rw [hV, hx]; exact ⟨by simp, by simp⟩)
  have hxh : h < x := by rw [hx]; exact HY4.out.lt
  have hxp : x ≠ p := by have := HY4.out.lt; have := HD4.out.src.lt; omega
  have hxw : w.heap.size ≤ x := by omega
  clear hb1 HD4 HY4 HZ4
  go_wp2_with fail
  rw [← hV, ← hx]
  clear hV hx
  refine (one_c p cb co sl sc sa 10 _ HDV.out.src (by omega)).mono ?_
  rintro e w5 ⟨b, rfl, hD, hz⟩
  have HD5 := Lib.hid (HDV.out.trans hD)
  have HY5 := Lib.hid (HYV.out.grown hD.gr hne)
  have HZ5 := Lib.hid (HZV.out.grown HYV.out.lt hD.gr hne)
  have HX5 := Lib.hid (HXV.out.grown hD.gr hxp)
  have HF5 := Lib.hid (HFV.out.grown HXV.out.lt hD.gr hxp)
  clear hD hz HDV HYV HZV HXV HFV
  cases b
  · have x0 := HX5.out.c0
    have x1 := HX5.out.c1
    have r0 := HY5.out.c0
    have r1 := HY5.out.c1
    have f0 := HZ5.out.f0
    have f1 := HZ5.out.f1
    have hlt := HY5.out.lt
    go_wp2_with fail
    refine bodyPost_ret (v := .agg #[.string s, .string t]) (by simp [results, Tryd.results21, go_sem, hlt, r0, r1]) rfl ⟨s, t, rfl, by omega, by omega, ?_⟩
    exact (HD5.out.set hp hcb hhw).set hp hcb hhw
  · go_wp2_with fail
    refine (n_c p cb co sl sc sa 6 _ HD5.out.src (by omega)).mono ?_
    rintro e w6 ⟨r, rfl, r0, r1, hS1, hg, hz⟩
    have hr5 : r ≤ 5 := by omega
    have HD6 := Lib.hid (HD5.out.trans ⟨hS1, hg⟩)
    have HY6 := Lib.hid (HY5.out.grown hg hne)
    have HZ6 := Lib.hid (HZ5.out.grown HY5.out.lt hg hne)
    have HX6 := Lib.hid (HX5.out.grown hg hxp)
    have HF6 := Lib.hid (HF5.out.grown HX5.out.lt hg hxp)
    obtain ⟨m, hm⟩ := Int.eq_ofNat_of_zero_le r0
    subst hm
    have hw1 : IntKind.i64.wrap (2996 + (m : Int)) = 2996 + (m : Int) := by rw [IntWalk.i64_in _ (by omega)]
    clear r0 r1 hS1 hg hz HD5 HY5 HZ5 HX5 HF5
    obtain ⟨i0, hi, hh⟩ := Option.map_eq_some_iff.1 infoU8
    obtain ⟨hz0, hz1, hz2⟩ : i0.zero = some (.int .u8 0) ∧ i0.size = 1 ∧ i0.bytes = 1 := by simpa using hh
    have HM2 : Hid ((2996 : Int) + (m : Int) = ((2996 + m : Nat) : Int)) := Lib.hid (by omega)
    have hs3 : w.heap.size ≤ w6.heap.size := HD6.out.gr.size
    have hm5 : m ≤ 5 := by omega
    clear hr5
    go_wp2_with (at_make; refine wpList_make_full _ rfl (.tmp 17) (.tmp 17) 22 rfl w.heap.size 5 i0 (.int .u8 0) 1 Tryd.underlying22 hi hz0 hz1 .i64 .i64 _ _ (2996 + m) rfl rfl HM2.out HM2.out (by rw [hz2]; omega) (by unfold maxLen; omega) hs3 ?_; intro w7 hown hg; rw [made_zero] at hown; have hcv := conv_owned 22 9 5 Tryd.underlying22 Tryd.underlying5 Tryd.underlying9 _ _ _ _ hown; have hsz := strOfNums_size (List.replicate (2996 + m) (0 : Int)); generalize strOfNums (List.replicate (2996 + m) (0 : Int)) = y at hcv hsz; have HSZ := Lib.hid hsz; have hb7 : Below w6.heap.size w6 w7 := ⟨hg.os, hg.tape, hg.output, hg.size, fun k hk => hg.block k hk (by simp)⟩; have HD7 := Lib.hid (HD6.out.below hb7); have HY7 := Lib.hid (HY6.out.below hb7); have HZ7 := Lib.hid (HZ6.out.below HY6.out.lt hb7); have HX7 := Lib.hid (HX6.out.below hb7); have HF7 := Lib.hid (HF6.out.below HX6.out.lt hb7); clear hown hsz hg hb7 HD6 HY6 HZ6 HX6 HF6; have x0 := HX7.out.c0; have x1 := HX7.out.c1; have r0 := HY7.out.c0; have r1 := HY7.out.c1; have f0 := HZ7.out.f0; have f1 := HZ7.out.f1; have g0 := HF7.out.f0; have hlt := HY7.out.lt; have hxlt := HX7.out.lt; have hhx : ¬ h = x := (by omega); have hxh2 : ¬ x = h := (by omega))
    refine bodyPost_ret (v := .agg #[.string y, .string t]) (by simp [results, Tryd.results21, go_sem, hlt, hhx, hxh2, r0, r1]) rfl ⟨y, t, rfl, by rw [HSZ.out]; simp; omega, by omega, ?_⟩
    exact ((HD7.out.set hp hcb hxw).set hp hcb hhw).set hp hcb hhw

set_option maxRecDepth 100000 in
set_option maxHeartbeats 1600000 in
theorem edge_c (p cb co sl sc : Nat) (sa : Option Addr) (w : World) (hS : SrcC w p cb co sl sc sa) :
    Calls Tryd.prog 25 #[.pointer (some ⟨p, 0, none⟩)] w fun e w' => ∃ r : Int, e = .returned (.int .i64 r) ∧ (Lit.int .i64 r).wf = true ∧ DrawnC w w' p cb co sl sc sa := by
  have hp := hS.lt
  go_enter Tryd.func25, Tryd.ntmps25
  go_wp2_with fail
  refine (n_c p cb co sl sc sa 14 _ (hS.below ((Below.refl _ _).alloc (Nat.le_refl _) _)) (by omega)).mono ?_
  rintro e w2 ⟨r, rfl, r0, r1, hS2, hg, hz2⟩
  have HG : Hid (w.grownBy w2 (some p)) := grownBy_trans (World.grownBy_alloc w _ _) hg
  have hblk := hg.block w.heap.size (by simp) (by simp; omega)
  have hcl : ∀ o, w2.cell? ⟨w.heap.size, o, none⟩ = (w.alloc _).cell? ⟨w.heap.size, o, none⟩ := fun o => World.cell?_of_block hblk
  have HD2 : Hid (DrawnC w w2 p cb co sl sc sa) := Lib.hid ⟨hS2, HG.out⟩
  clear hblk hg hz2 hS2
  have hr : r = 0 ∨ r = 1 ∨ r = 2 ∨ r = 3 ∨ r = 4 ∨ r = 5 ∨ r = 6 ∨ r = 7 ∨ r = 8 ∨ r = 9 ∨ r = 10 ∨ r = 11 ∨ r = 12 ∨ r = 13 := by omega
  clear r0 r1
  rcases hr with rfl | rfl | rfl | rfl | rfl | rfl | rfl | rfl | rfl | rfl | rfl | rfl | rfl | rfl
  all_goals
    go_wp2_with fail
    go_ret
    exact ⟨_, rfl, by decide, HD2.out⟩
set_option maxRecDepth 100000 in
set_option maxHeartbeats 1600000 in
theorem drawAppend_any (ao : Option Addr) (len cap : Nat) (w : World) (hC : CodeAt w ao len) (hl : len ≤ 1048576) :
    Calls Tryd.prog 5 #[.slice ao len cap] w fun e w' => ∃ s t b : ByteArray, e = .returned (.tuple #[dkV (s, t), .string b]) ∧ s.size ≤ 3100 ∧ t.size ≤ 100 ∧ b.size ≤ 100 ∧ Below w.heap.size w w' := by
  obtain ⟨W, hW⟩ : ∃ W, W = w.alloc (.cells #[.string ⟨#[]⟩, .string ⟨#[]⟩] 24) := ⟨_, rfl⟩
  obtain ⟨h, hh⟩ : ∃ h, h = w.heap.size := ⟨_, rfl⟩
  have HY0 := Lib.hid (show DkBox W h ⟨#[]⟩ ⟨#[]⟩ by rw [hW, hh]; exact ⟨by simp, by simp, by simp⟩)
  have HZ0 := Lib.hid (show DkFree W h by rw [hW, hh]; exact ⟨by simp, by simp⟩)
  have HB0 := Lib.hid (show Below w.heap.size w W by rw [hW]; exact (Below.refl _ _).alloc (Nat.le_refl _) _)
  have hhw : w.heap.size ≤ h := by omega
  go_enter Tryd.func5, Tryd.ntmps5
  go_wp2_with fail
  rw [← hW, ← hh]
  clear hW hh
  refine (source_any ao len cap _ (hC.below HB0.out) hl).mono ?_
  rintro e w1 ⟨p, rfl, hp, ⟨cb, co, sl, sc, sa, hS⟩, hb1⟩
  have hne : h ≠ p := by have := HY0.out.lt; omega
  have hpw : w.heap.size ≤ p := by have := HB0.out.size; omega
  have HB1 := Lib.hid (HB0.out.trans (hb1.mono HB0.out.size))
  have HY1 := Lib.hid (HY0.out.below hb1)
  have HZ1 := Lib.hid (HZ0.out.below HY0.out.lt hb1)
  clear hb1 HY0 HZ0 HB0
  go_wp2_with fail
  refine (n_c p cb co sl sc sa 6 _ hS (by omega)).mono ?_
  rintro e w2 ⟨r, rfl, r0, r1, hS2, hg, hz⟩
  have hr : r ≤ 5 := by omega
  have HB2 := Lib.hid (below_drawn HB1.out (Nat.le_refl _) hpw (⟨hS2, hg⟩ : DrawnC w1 w2 p cb co sl sc sa).drawn)
  have HY2 := Lib.hid (HY1.out.grown hg hne)
  have HZ2 := Lib.hid (HZ1.out.grown HY1.out.lt hg hne)
  clear r1 hg hz HB1 HY1 HZ1 hS
  go_wp2_with fail
  refine (bytes_c p cb co sl sc sa r _ hS2 (by omega)).mono ?_
  rintro e w3 ⟨b, rfl, hx, hD⟩
  have hb : b.size ≤ 5 := by omega
  have HB3 := Lib.hid (below_drawn HB2.out (Nat.le_refl _) hpw hD.drawn)
  have HY3 := Lib.hid (HY2.out.grown hD.gr hne)
  have HZ3 := Lib.hid (HZ2.out.grown HY2.out.lt hD.gr hne)
  have hS3 := hD.src
  clear hx hD HB2 HY2 HZ2 hS2 r0 hr
  go_wp2_with fail
  refine (disk_c p cb co sl sc sa _ hS3).mono ?_
  rintro e w4 ⟨s, t, rfl, hs, ht, hD⟩
  have HB4 := Lib.hid (below_drawn HB3.out (Nat.le_refl _) hpw hD.drawn)
  have HY4 := Lib.hid (HY3.out.grown hD.gr hne)
  have HZ4 := Lib.hid (HZ3.out.grown HY3.out.lt hD.gr hne)
  clear hD HB3 HY3 HZ3 hS3
  have r0 := HY4.out.c0
  have r1 := HY4.out.c1
  have f0 := HZ4.out.f0
  have f1 := HZ4.out.f1
  have hlt := HY4.out.lt
  unfold dkV
  dsimp only
  go_wp2_with fail
  refine bodyPost_ret (v := .tuple #[.agg #[.string s, .string t], .string b]) (by simp [results, Tryd.results5, go_sem, hlt, r0, r1]) rfl ⟨s, t, b, rfl, hs, ht, by omega, ?_⟩
  exact (HB4.out.setCell (p := ⟨h, 0, none⟩) hhw _).setCell (p := ⟨h, 1, none⟩) hhw _
set_option maxRecDepth 100000 in
set_option maxHeartbeats 1600000 in
theorem drawCrash_any (ao : Option Addr) (len cap : Nat) (w : World) (hC : CodeAt w ao len) (hl : len ≤ 1048576) :
    Calls Tryd.prog 7 #[.slice ao len cap] w fun e w' => ∃ (s t : ByteArray) (k : Int), e = .returned (.tuple #[dkV (s, t), .int .i64 k]) ∧ s.size ≤ 3100 ∧ t.size ≤ 100 ∧ Below w.heap.size w w' := by
  obtain ⟨W, hW⟩ : ∃ W, W = w.alloc (.cells #[.string ⟨#[]⟩, .string ⟨#[]⟩] 24) := ⟨_, rfl⟩
  obtain ⟨h, hh⟩ : ∃ h, h = w.heap.size := ⟨_, rfl⟩
  have HY0 := Lib.hid (show DkBox W h ⟨#[]⟩ ⟨#[]⟩ by rw [hW, hh]; exact ⟨by simp, by simp, by simp⟩)
  have HZ0 := Lib.hid (show DkFree W h by rw [hW, hh]; exact ⟨by simp, by simp⟩)
  have HB0 := Lib.hid (show Below w.heap.size w W by rw [hW]; exact (Below.refl _ _).alloc (Nat.le_refl _) _)
  have hhw : w.heap.size ≤ h := by omega
  go_enter Tryd.func7, Tryd.ntmps7
  go_wp2_with fail
  rw [← hW, ← hh]
  clear hW hh
  refine (source_any ao len cap _ (hC.below HB0.out) hl).mono ?_
  rintro e w1 ⟨p, rfl, hp, ⟨cb, co, sl, sc, sa, hS⟩, hb1⟩
  have hne : h ≠ p := by have := HY0.out.lt; omega
  have hpw : w.heap.size ≤ p := by have := HB0.out.size; omega
  have HB1 := Lib.hid (HB0.out.trans (hb1.mono HB0.out.size))
  have HY1 := Lib.hid (HY0.out.below hb1)
  have HZ1 := Lib.hid (HZ0.out.below HY0.out.lt hb1)
  clear hb1 HY0 HZ0 HB0
  go_wp2_with fail
  refine (n_c p cb co sl sc sa 8 _ hS (by omega)).mono ?_
  rintro e w2 ⟨r, rfl, r0, r1, hS2, hg, hz⟩
  have hw1 : IntKind.i64.wrap (r - 1) = r - 1 := by rw [IntWalk.i64_in _ (by omega)]
  have HB2 := Lib.hid (below_drawn HB1.out (Nat.le_refl _) hpw (⟨hS2, hg⟩ : DrawnC w1 w2 p cb co sl sc sa).drawn)
  have HY2 := Lib.hid (HY1.out.grown hg hne)
  have HZ2 := Lib.hid (HZ1.out.grown HY1.out.lt hg hne)
  clear r1 hg hz HB1 HY1 HZ1 hS
  go_wp2_with fail
  clear hw1
  refine (one_c p cb co sl sc sa 10 _ hS2 (by omega)).mono ?_
  rintro e w3 ⟨b, rfl, hD, hz⟩
  have HB3 := Lib.hid (below_drawn HB2.out (Nat.le_refl _) hpw hD.drawn)
  have HY3 := Lib.hid (HY2.out.grown hD.gr hne)
  have HZ3 := Lib.hid (HZ2.out.grown HY2.out.lt hD.gr hne)
  have hS3 := hD.src
  clear hz hD HB2 HY2 HZ2 hS2
  cases b
  · go_wp2_with fail
    refine (disk_c p cb co sl sc sa _ hS3).mono ?_
    rintro e w4 ⟨s, t, rfl, hs, ht, hD⟩
    have HB4 := Lib.hid (below_drawn HB3.out (Nat.le_refl _) hpw hD.drawn)
    have HY4 := Lib.hid (HY3.out.grown hD.gr hne)
    have HZ4 := Lib.hid (HZ3.out.grown HY3.out.lt hD.gr hne)
    clear hD HB3 HY3 HZ3 hS3
    have r0 := HY4.out.c0
    have r1 := HY4.out.c1
    have f0 := HZ4.out.f0
    have f1 := HZ4.out.f1
    have hlt := HY4.out.lt
    unfold dkV
    dsimp only
    go_wp2_with fail
    refine bodyPost_ret (v := .tuple #[.agg #[.string s, .string t], .int .i64 (r - 1)]) (by simp [results, Tryd.results7, go_sem, hlt, r0, r1]) rfl ⟨s, t, _, rfl, hs, ht, ?_⟩
    exact (HB4.out.setCell (p := ⟨h, 0, none⟩) hhw _).setCell (p := ⟨h, 1, none⟩) hhw _
  · go_wp2_with fail
    refine (edge_c p cb co sl sc sa _ hS3).mono ?_
    rintro e w3b ⟨k, rfl, hk, hD⟩
    have HB3b := Lib.hid (below_drawn HB3.out (Nat.le_refl _) hpw hD.drawn)
    have HY3b := Lib.hid (HY3.out.grown hD.gr hne)
    have HZ3b := Lib.hid (HZ3.out.grown HY3.out.lt hD.gr hne)
    have hS3b := hD.src
    clear hD HB3 HY3 HZ3 hS3
    go_wp2_with fail
    refine (disk_c p cb co sl sc sa _ hS3b).mono ?_
    rintro e w4 ⟨s, t, rfl, hs, ht, hD⟩
    have HB4 := Lib.hid (below_drawn HB3b.out (Nat.le_refl _) hpw hD.drawn)
    have HY4 := Lib.hid (HY3b.out.grown hD.gr hne)
    have HZ4 := Lib.hid (HZ3b.out.grown HY3b.out.lt hD.gr hne)
    clear hD HB3b HY3b HZ3b hS3b
    have r0 := HY4.out.c0
    have r1 := HY4.out.c1
    have f0 := HZ4.out.f0
    have f1 := HZ4.out.f1
    have hlt := HY4.out.lt
    unfold dkV
    dsimp only
    go_wp2_with fail
    refine bodyPost_ret (v := .tuple #[.agg #[.string s, .string t], .int .i64 k]) (by simp [results, Tryd.results7, go_sem, hlt, r0, r1]) rfl ⟨s, t, _, rfl, hs, ht, ?_⟩
    exact (HB4.out.setCell (p := ⟨h, 0, none⟩) hhw _).setCell (p := ⟨h, 1, none⟩) hhw _
end Go.Proofs.YtnoefpkhbllmiaaDoor
