/- What the model's Eval, PolyAdd and PolyMul answer. -/
import Derived.Test.YtfplfkebamgniaaSPoly
namespace Go.Proofs.Ytfplfkebamgniaa
open Go.RowKit Go.PlainAid G MGF IRow
set_option linter.unusedVariables false
set_option maxRecDepth 100000 in
theorem l03Eval_any (a : Option Addr) (n cap : Nat) (p : List B) (x : B) (w : World) (h : IR w a n cap (pv p)) (hn : n ≤ 1048576) :
    Calls Try.prog 95 #[.slice a n cap, .int .i64 (bi x)] w fun e w' => e = .returned (.int .i64 (bi (ev p x))) ∧ Below w.heap.size w w' := by
  have hl : p.length = n := by have := h.len; rwa [pv_length] at this
  have hw : IntKind.i64.wrap ((n : Int) - 1) = (n : Int) - 1 := by rw [IntWalk.i64_in _ (by omega)]
  go_enter Try.func95, Try.ntmps95
  go_wp2_with fail
  go_loopw [5, 6] (fun y i wr => ∃ j : Nat, j ≤ n ∧ i = .int .i64 ((j : Int) - 1) ∧ y = .int .i64 (bi (ev (p.drop j) x)) ∧ Below w.heap.size w wr) (fun _ i _ => (intOf i + 1).toNat)
  case atStart => exact ⟨n, Nat.le_refl _, rfl, by rw [List.drop_of_length_le (by omega)]; rfl, Below.refl _ _⟩
  case round =>
    obtain ⟨j, hj, rfl, rfl, hB⟩ := hrel
    by_cases h0 : j = 0
    · subst h0
      have HB := Lib.hid hB
      clear h hB
      go_wp2_with fail
      go_ret
      exact ⟨ret_int (by rw [List.drop_zero]), HB.out⟩
    · obtain ⟨i, rfl⟩ := Nat.exists_eq_succ_of_ne_zero h0
      obtain ⟨g, o, rfl, hg, hc⟩ := h.cells (by omega)
      have hck := (hB.cell (p := ⟨g, o + i, none⟩) hg).trans (hc i (by omega))
      rw [pv_getD] at hck
      have hE := ev_drop (p := p) (j := i) (by omega) x
      have hii : ((i + 1 : Nat) : Int) - 1 = (i : Int) := by omega
      have hcall := (l02MulB_any (ev (p.drop (i + 1)) x) x wr.drew).mono (fun e w' h => (⟨h.1, h.2.symm⟩ : e = Ending.returned (.int .i64 (bi (mul (ev (p.drop (i + 1)) x) x))) ∧ w' = wr.drew))
      have hxx := bi_xor (mul (ev (p.drop (i + 1)) x) x) (cf p i)
      rw [← hE] at hxx
      have HB := Lib.hid hB.drew
      generalize ev (p.drop (i + 1)) x = y at *
      generalize cf p i = z at *
      clear h hB hc hE
      rw [hii]
      have hin : i < n := by omega
      clear hii hw hl
      go_wp2_with fail
      go_still_tail 8, (by kernel_rfl)
      still_call hcall
      repeat still_step
      refine wpStill_nil ?_
      change wpList _ _ _ _ _ wr.drew
      clear hcall hck
      generalize wr.drew = we at *
      go_wp2_with fail
      go_roundw
      case rel => exact ⟨i, by omega, rfl, rfl, HB.out⟩
      case measure => simp [intOf] <;> omega
/-- What Eval answers. -/
def evalI (zs : List Int) (x : Int) : Int := if rightB zs = true ∧ byteB x = true then bi (ev (zs.map ib) (ib x)) else -1
theorem map_ib_pv (p : List B) : (pv p).map ib = p := by
  unfold pv
  rw [List.map_map]
  have : p.map (ib ∘ bi) = p.map id := List.map_congr_left (fun x _ => ib_bi x)
  rw [this, List.map_id]
theorem evalI_pv {p : List B} (h : rightB (pv p) = true) (x : B) : evalI (pv p) (bi x) = bi (ev p x) := by
  unfold evalI
  rw [if_pos ⟨h, byteB_bi x⟩, map_ib_pv, ib_bi]
set_option maxRecDepth 100000 in
theorem specEval_any (a : Option Addr) (n cap : Nat) (zs : List Int) (x : Int) (w : World) (h : IR w a n cap zs) (hn : n ≤ 1048576) :
    Calls Try.prog 44 #[.slice a n cap, .int .i64 x] w fun e w' => e = .returned (.int .i64 (evalI zs x)) ∧ Below w.heap.size w w' := by
  cases hr : rightB zs
  · have HF : Hid (-1 = evalI zs x) := Lib.hid (by unfold evalI; rw [if_neg (by rw [hr]; simp)])
    have H := Lib.hid h
    clear h
    go_enter Try.func44, Try.ntmps44
    go_wp2_with fail
    refine (specPolyRight_any a n cap zs _ H.out hn).mono ?_
    rintro e w1 ⟨rfl, rfl⟩
    rw [hr]
    go_wp2_with fail
    go_ret
    exact ⟨ret_int HF.out, Below.refl _ _⟩
  · cases hb : byteB x
    · have HF : Hid (-1 = evalI zs x) := Lib.hid (by unfold evalI; rw [if_neg (by rw [hb]; simp)])
      have H := Lib.hid h
      clear h
      go_enter Try.func44, Try.ntmps44
      go_wp2_with fail
      refine (specPolyRight_any a n cap zs _ H.out hn).mono ?_
      rintro e w1 ⟨rfl, rfl⟩
      rw [hr]
      go_wp2_with fail
      refine (l02Byte_any x _).mono ?_
      rintro e w1 ⟨rfl, rfl⟩
      rw [hb]
      go_wp2_with fail
      go_ret
      exact ⟨ret_int HF.out, Below.refl _ _⟩
    · obtain ⟨p, rfl, _⟩ := (rightB_iff zs).1 hr
      obtain ⟨y, rfl⟩ : ∃ y : B, x = bi y := by
        unfold byteB at hb
        have := of_decide_eq_true hb
        exact byte_of this.1 this.2
      have HF : Hid (bi (ev p y) = evalI (pv p) (bi y)) := Lib.hid (evalI_pv hr y).symm
      have H := Lib.hid h
      clear h
      go_enter Try.func44, Try.ntmps44
      go_wp2_with fail
      refine (specPolyRight_any a n cap (pv p) _ H.out hn).mono ?_
      rintro e w1 ⟨rfl, rfl⟩
      rw [hr]
      go_wp2_with fail
      refine (l02Byte_any (bi y) _).mono ?_
      rintro e w1 ⟨rfl, rfl⟩
      rw [hb]
      go_wp2_with fail
      refine (l03Eval_any a n cap p y _ H.out hn).mono ?_
      rintro e w1 ⟨rfl, hB⟩
      have HB := Lib.hid hB
      clear hB
      go_wp2_with fail
      go_ret
      exact ⟨ret_int HF.out, HB.out⟩
/-- A polynomial, or a code, in new memory. -/
def NewOut (r : List Int × Int) (w : World) (e : Ending) (w' : World) : Prop :=
  ∃ a k c, e = .returned (polyV (.slice a k c) r.2) ∧ w'.ownsRow w.heap.size 2 1 (.slice a k c) k (r.1.map (Value.int .i64)) ∧ Below w.heap.size w w'
set_option maxRecDepth 100000 in
theorem l03Told_any (a : Option Addr) (n cap : Nat) (w : World) (hn : n ≤ 1048576) :
    Calls Try.prog 87 #[.slice a n cap] w fun e w' => e = .returned (if 60 < n then polyV (.slice none 0 0) 9 else polyV (.slice a n cap) 0) ∧ Below w.heap.size w w' := by
  unfold polyV
  by_cases h : 60 < n
  · rw [if_pos h]
    go_enter Try.func87, Try.ntmps87
    go_wp2_with fail
    exact bodyPost_ret (v := .agg #[.slice none 0 0, .int .i64 9]) (by simp [results, Try.results87, go_sem]) rfl ⟨rfl, (Below.refl _ _).alloc (Nat.le_refl _) _⟩
  · rw [if_neg h]
    go_enter Try.func87, Try.ntmps87
    go_wp2_with fail
    exact bodyPost_ret (v := .agg #[.slice a n cap, .int .i64 0]) (by simp [results, Try.results87, go_sem]) rfl ⟨rfl, (Below.refl _ _).alloc (Nat.le_refl _) _⟩
def told (p : List B) : List Int × Int := if 60 < p.length then ([], 9) else (pv p, 0)
theorem ret_out {r : List Int × Int} {zs : List Int} {c : Int} (h : r = (zs, c)) {w w' : World} {a : Option Addr} {k cap : Nat} (ho : w'.ownsRow w.heap.size 2 1 (.slice a k cap) k (zs.map (Value.int .i64))) (hb : Below w.heap.size w w') : NewOut r w (.returned (.agg #[.slice a k cap, .int .i64 c])) w' := by
  subst h
  exact ⟨a, k, cap, rfl, ho, hb⟩
def polyAddR (zs ys : List Int) : List Int × Int := if 400 < zs.length ∨ 400 < ys.length then ([], 2) else if rightB zs = true ∧ rightB ys = true then told (trim (addP (zs.map ib) (ys.map ib))) else ([], 1)
theorem polyAddR_len (zs ys : List Int) : (polyAddR zs ys).1.length ≤ 60 := by
  unfold polyAddR told
  split
  · exact Nat.zero_le _
  · split
    · split
      · exact Nat.zero_le _
      · rw [pv_length]; omega
    · exact Nat.zero_le _
theorem polyAddR_size {zs ys : List Int} (h : 400 < zs.length ∨ 400 < ys.length) : polyAddR zs ys = ([], 2) := by unfold polyAddR; rw [if_pos h]
theorem polyAddR_form {zs ys : List Int} (h : ¬ (400 < zs.length ∨ 400 < ys.length)) (h2 : ¬ (rightB zs = true ∧ rightB ys = true)) : polyAddR zs ys = ([], 1) := by unfold polyAddR; rw [if_neg h, if_neg h2]
theorem polyAddR_pv {p q : List B} (h : ¬ (400 < (pv p).length ∨ 400 < (pv q).length)) (h1 : rightB (pv p) = true) (h2 : rightB (pv q) = true) : polyAddR (pv p) (pv q) = told (trim (addP p q)) := by unfold polyAddR; rw [if_neg h, if_pos ⟨h1, h2⟩, map_ib_pv, map_ib_pv]
set_option maxRecDepth 100000 in
theorem specPolyAdd_any (a b : Option Addr) (n m cap cbp : Nat) (zs ys : List Int) (w : World) (h : IR w a n cap zs) (k : IR w b m cbp ys) (hn : n ≤ 1048576) (hm : m ≤ 1048576) :
    Calls Try.prog 39 #[.slice a n cap, .slice b m cbp] w (NewOut (polyAddR zs ys) w) := by
  have hl := h.len
  have hl2 := k.len
  have H := Lib.hid (h.below ((Below.refl _ w).alloc (Nat.le_refl _) (.cells #[.slice none 0 0, .int .i64 0] 34)))
  have K := Lib.hid (k.below ((Below.refl _ w).alloc (Nat.le_refl _) (.cells #[.slice none 0 0, .int .i64 0] 34)))
  clear h k
  by_cases h1 : 400 < n
  · have HF := Lib.hid (polyAddR_size (zs := zs) (ys := ys) (Or.inl (by omega)))
    go_enter Try.func39, Try.ntmps39
    go_wp2_with fail
    exact bodyPost_ret (v := .agg #[.slice none 0 0, .int .i64 2]) (by simp [results, Try.results39, go_sem]) rfl (ret_out HF.out (World.ownsRow_nil _ _ _ _) (by repeat' (first | exact Below.refl _ _ | refine Below.alloc ?_ (by first | exact Nat.le_refl _ | (simp; done) | (simp; omega)) _ | refine Below.setCell ?_ (by first | exact Nat.le_refl _ | (simp; done) | (simp; omega)) _)))
  · by_cases h2 : 400 < m
    · have HF := Lib.hid (polyAddR_size (zs := zs) (ys := ys) (Or.inr (by omega)))
      go_enter Try.func39, Try.ntmps39
      go_wp2_with fail
      exact bodyPost_ret (v := .agg #[.slice none 0 0, .int .i64 2]) (by simp [results, Try.results39, go_sem]) rfl (ret_out HF.out (World.ownsRow_nil _ _ _ _) (by repeat' (first | exact Below.refl _ _ | refine Below.alloc ?_ (by first | exact Nat.le_refl _ | (simp; done) | (simp; omega)) _ | refine Below.setCell ?_ (by first | exact Nat.le_refl _ | (simp; done) | (simp; omega)) _)))
    · have hno : ¬ (400 < zs.length ∨ 400 < ys.length) := by omega
      cases hr : rightB zs
      · have HF := Lib.hid (polyAddR_form hno (by rw [hr]; simp))
        clear hno
        go_enter Try.func39, Try.ntmps39
        go_wp2_with fail
        refine (specPolyRight_any a n cap zs _ H.out hn).mono ?_
        rintro e w1 ⟨rfl, rfl⟩
        rw [hr]
        go_wp2_with fail
        exact bodyPost_ret (v := .agg #[.slice none 0 0, .int .i64 1]) (by simp [results, Try.results39, go_sem]) rfl (ret_out HF.out (World.ownsRow_nil _ _ _ _) (by repeat' (first | exact Below.refl _ _ | refine Below.alloc ?_ (by first | exact Nat.le_refl _ | (simp; done) | (simp; omega)) _ | refine Below.setCell ?_ (by first | exact Nat.le_refl _ | (simp; done) | (simp; omega)) _)))
      · cases hr2 : rightB ys
        · have HF := Lib.hid (polyAddR_form hno (by rw [hr2]; simp))
          clear hno
          go_enter Try.func39, Try.ntmps39
          go_wp2_with fail
          refine (specPolyRight_any a n cap zs _ H.out hn).mono ?_
          rintro e w1 ⟨rfl, rfl⟩
          rw [hr]
          go_wp2_with fail
          refine (specPolyRight_any b m cbp ys _ K.out hm).mono ?_
          rintro e w1 ⟨rfl, rfl⟩
          rw [hr2]
          go_wp2_with fail
          exact bodyPost_ret (v := .agg #[.slice none 0 0, .int .i64 1]) (by simp [results, Try.results39, go_sem]) rfl (ret_out HF.out (World.ownsRow_nil _ _ _ _) (by repeat' (first | exact Below.refl _ _ | refine Below.alloc ?_ (by first | exact Nat.le_refl _ | (simp; done) | (simp; omega)) _ | refine Below.setCell ?_ (by first | exact Nat.le_refl _ | (simp; done) | (simp; omega)) _)))
        · obtain ⟨p, rfl, hp⟩ := (rightB_iff zs).1 hr
          obtain ⟨q, rfl, hq⟩ := (rightB_iff ys).1 hr2
          have HF := Lib.hid (polyAddR_pv hno hr hr2)
          clear hno hp hq
          go_enter Try.func39, Try.ntmps39
          go_wp2_with fail
          refine (specPolyRight_any a n cap (pv p) _ H.out hn).mono ?_
          rintro e w1 ⟨rfl, rfl⟩
          rw [hr]
          go_wp2_with fail
          refine (specPolyRight_any b m cbp (pv q) _ K.out hm).mono ?_
          rintro e w1 ⟨rfl, rfl⟩
          rw [hr2]
          go_wp2_with fail
          refine (l03Add_any a b n m cap cbp p q _ H.out K.out (by omega) (by omega)).mono ?_
          rintro e w1 ⟨a', k', c', rfl, ho, hb⟩
          have hk' : (trim (addP p q)).length = k' := by have := ho.1; simpa [pv] using this
          obtain ⟨hc, hf⟩ := bcell hb
          have hz : w.heap.size < w1.heap.size := by have := hb.size; simp at this; omega
          have HB1 : Hid (Below w.heap.size w w1) := Lib.hid (((Below.refl _ w).alloc (Nat.le_refl _) _).trans (hb.mono (by simp)))
          have hks : k' ≤ 1048576 := by
            have := length_trim (addP p q)
            rw [length_addP] at this
            have e1 := H.out.len
            have e2 := K.out.len
            rw [pv_length] at e1 e2
            omega
          by_cases h60 : 60 < k'
          · have HT : Hid (told (trim (addP p q)) = ([], 9)) := Lib.hid (by unfold told; rw [if_pos (by omega)])
            clear ho hb hk'
            go_wp2_with fail
            refine (l03Told_any a' k' c' _ hks).mono ?_
            rintro e w2 ⟨rfl, hb2⟩
            rw [if_pos h60]
            obtain ⟨hc2, hf2⟩ := bcell hb2
            have hz2' : w.heap.size < w2.heap.size := by have := hb2.size; omega
            have HB2 := Lib.hid (HB1.out.trans (hb2.mono HB1.out.size))
            unfold polyV
            clear hb2
            go_wp2_with fail
            exact bodyPost_ret (v := .agg #[.slice none 0 0, .int .i64 9]) (by simp [results, Try.results39, go_sem, hc, hz, hc2]) rfl (ret_out (HF.out.trans HT.out) (World.ownsRow_nil _ _ _ _) (by repeat' (first | exact HB2.out | refine Below.setCell ?_ (by first | exact Nat.le_refl _ | (simp; done) | (simp; omega)) _)))
          · have HT : Hid (told (trim (addP p q)) = (pv (trim (addP p q)), 0)) := Lib.hid (by unfold told; rw [if_neg (by omega)])
            have HO := Lib.hid (own_mono ho (show w.heap.size ≤ (w.alloc (.cells #[.slice none 0 0, .int .i64 0] 34)).heap.size by simp))
            have hlo := HO.out.lt
            have hab : ∀ g, (Value.slice a' k' c').ownBlock = some g → w.heap.size < g := fun g hg => by have := (ho.lt g hg).1; simp at this; omega
            clear ho hb hk'
            go_wp2_with fail
            refine (l03Told_any a' k' c' _ hks).mono ?_
            rintro e w2 ⟨rfl, hb2⟩
            rw [if_neg h60]
            obtain ⟨hc2, hf2⟩ := bcell hb2
            have hz2' : w.heap.size < w2.heap.size := by have := hb2.size; omega
            have HB2 := Lib.hid (HB1.out.trans (hb2.mono HB1.out.size))
            have HO2 := Lib.hid (own_below HO.out hb2)
            unfold polyV
            clear hb2
            go_wp2_with fail
            exact bodyPost_ret (v := .agg #[.slice a' k' c', .int .i64 0]) (by simp [results, Try.results39, go_sem, hc, hz, hc2]) rfl (ret_out (HF.out.trans HT.out) (by repeat' (first | exact HO2.out | refine own_other (b := w.heap.size) ?_ (fun g hg => by have := hab g hg; omega) _ _ rfl)) (by repeat' (first | exact HB2.out | refine Below.setCell ?_ (by first | exact Nat.le_refl _ | (simp; done) | (simp; omega)) _)))
end Go.Proofs.Ytfplfkebamgniaa
