/- What locks a text: the model's loop and the program's. -/
import Derived.Test.YtooggohnoookiaaLockA
namespace Go.Proofs.Ytooggohnoookiaa
open Go.RowKit Go.PlainAid G
set_option linter.unusedVariables false
theorem bt_at (s : ByteArray) (k : Nat) (h : k < s.size) : ((s[k]'h).toNat : Int) = bt s k := by unfold bt; rw [dif_pos h]
theorem lk_loop {w : World} {g : Nat} {key t : ByteArray} {n k : Nat} {old : Nat → Int} (h : LkAt w g t.size (lkM key n t old k)) : LkAt (w.setCell ⟨g, k, none⟩ (.int .u8 (lkB key n t k))) g t.size (lkM key n t old (k + 1)) :=
  (h.set (lkB key n t k)).congr (fun i _ => lkM_step key n t old k i)
theorem lk_made {w w1 : World} {e : TypeId} {key t : ByteArray} {n : Nat} (h : w1.ownsRow w.heap.size e 1 (.slice (some ⟨w.heap.size, 0, none⟩) t.size t.size) t.size (madeCells (Value.int .u8 0).cells (t.size * 1)).toList) :
    LkAt w1 w.heap.size t.size (lkM key n t (fun _ => 0) 0) := by
  refine ⟨fun i hi => ?_, fun i _ => h.frozenAt i⟩
  rw [h.cellAt i (by omega)]
  unfold lkM
  rw [if_neg (by omega)]
  simp [madeCells, Value.cells, Nat.mod_one, hi]
set_option maxRecDepth 100000 in
theorem l06Lock_any (key : ByteArray) (n : Nat) (t : ByteArray) (w : World) (hk1 : 1 ≤ key.size) (hk2 : key.size ≤ 16) (hn : n ≤ 1000000) (ht : t.size ≤ 1048576) :
    Calls Try.prog 23 #[.string key, .int .i64 n, .string t] w fun e w' => e = .returned (.string (lkS key n t)) ∧ Below w.heap.size w w' := by
  have hcv : ∀ u : World, (convert 9 22 (.string t)).run Try.prog u = .ok (.slice (some ⟨u.heap.size, 0, none⟩) t.size (grownCap u t.size 0 5)) (Lib.bytesWorld u 5 t) := fun u => Lib.run_convert_string_bytes u _ _ _ t Try.underlying9 Try.underlying22 Try.underlying5
  have hlk := lk_bytes w 5 t
  have hbl := below_lk w 5 t
  have hsz := Lib.bytesWorld_size w 5 t
  have HLK : Hid (LkAt (Lib.bytesWorld w 5 t) w.heap.size t.size (lkM key n t (bt t) 0)) := Lib.hid (hlk.congr (fun i _ => by unfold lkM; rw [if_neg (by omega)]))
  have HBL := Lib.hid hbl
  have HSZ : Hid (w.heap.size < (Lib.bytesWorld w 5 t).heap.size) := Lib.hid (by omega)
  clear hlk hbl hsz
  go_enter Try.func23, Try.ntmps23
  go_wp2_with fail
  clear hcv
  generalize Lib.bytesWorld w 5 t = wb at *
  generalize grownCap w t.size 0 5 = cap
  go_loopw [8] (fun i wr => ∃ k : Nat, k ≤ t.size ∧ i = .int .i64 k ∧ LkAt wr w.heap.size t.size (lkM key n t (bt t) k) ∧ Below w.heap.size w wr ∧ w.heap.size < wr.heap.size) (fun i _ => t.size - (intOf i).toNat)
  case atStart => exact ⟨0, Nat.zero_le _, rfl, HLK.out, HBL.out, HSZ.out⟩
  case round =>
    obtain ⟨k, hk, rfl, hL, hB, hg⟩ := hrel
    clear HLK HBL HSZ
    by_cases hlt : k < t.size
    · have hck := hL.cell k hlt
      have hfk := hL.free k hlt
      have hold : lkM key n t (bt t) k k = bt t k := by unfold lkM; rw [if_neg (by omega)]
      rw [hold] at hck
      have hS := lk_loop hL
      have HS := Lib.hid hS
      have HL := Lib.hid hL
      have HB := Lib.hid hB
      obtain ⟨m, hm⟩ : ∃ m : Nat, k + n = m := ⟨_, rfl⟩
      have hml : m % key.size < key.size := Nat.mod_lt _ (by omega)
      have hx := bt_at key (m % key.size) hml
      have HX : Hid (bits .xor .u8 (bt t k) ((key[m % key.size]'hml).toNat : Int) = lkB key n t k) := Lib.hid (by rw [hx]; unfold lkB; rw [hm])
      obtain ⟨r, hr⟩ : ∃ r : Nat, m % key.size = r := ⟨_, rfl⟩
      have hw1 : IntKind.i64.wrap ((k : Int) + (n : Int)) = (m : Int) := by rw [IntWalk.i64_in _ (by omega)]; omega
      have hw2 : Int.tmod (m : Int) (key.size : Int) = (r : Int) := by rw [← hr]; rfl
      have hw3 : IntKind.i64.wrap (r : Int) = (r : Int) := IntWalk.i64_in _ (by omega)
      have hnz : ¬ (key.size : Int) = 0 := by omega
      have hne : ¬ key = ByteArray.empty := fun h => by subst h; exact absurd hk1 (by decide)
      have hrl : r < key.size := by omega
      have HX2 : Hid (bits .xor .u8 (bt t k) ((key[r]'hrl).toNat : Int) = lkB key n t k) := Lib.hid (by subst hr; exact HX.out)
      have hr2 : (0 : Int) ≤ (r : Int) ∧ (r : Int) < (key.size : Int) := by omega
      clear hS hL hB hold hx hr hml HX
      have hm2 : 0 ≤ (m : Int) := by omega
      clear hm
      generalize bt t k = x at *
      go_wp2_with fail
      go_still_tail 15, (by kernel_rfl)
      change wpList _ _ _ _ _ wr.drew
      have hfk' : wr.drew.frozen? ⟨w.heap.size, k, none⟩ = false := hfk
      have hck' : wr.drew.cell? ⟨w.heap.size, k, none⟩ = some (.int .u8 x) := hck
      have HSd := Lib.hid (lk_loop HL.out.drew)
      have HBd : Hid (Below w.heap.size w (wr.drew.setCell ⟨w.heap.size, k, none⟩ (.int .u8 (lkB key n t k)))) := Lib.hid (HB.out.drew.setCell (Nat.le_refl _) _)
      have hgd : w.heap.size < (wr.drew.setCell ⟨w.heap.size, k, none⟩ (.int .u8 (lkB key n t k))).heap.size := by simpa using hg
      clear hck hfk HS HL HB hg
      rw [HX2.out]
      generalize wr.drew = we at *
      generalize lkB key n t k = y at *
      go_wp2_with fail
      go_roundw
      case rel => exact ⟨k + 1, by omega, by go_num, HSd.out, HBd.out, hgd⟩
      case measure => simp [intOf]; omega
    · have hcv := conv_lk 22 9 5 Try.underlying22 Try.underlying5 Try.underlying9 (cap := cap) hL (by omega)
      have HB := Lib.hid hB
      clear hL hB
      go_wp2_with fail
      go_ret
      exact ⟨rfl, HB.out⟩
theorem turn_any (key : ByteArray) (p : Nat) (b : Int) (w : World) (hk1 : 1 ≤ key.size) (hk2 : key.size ≤ 16) (hp : p ≤ 100000000) :
    Calls Try.prog 20 #[.string key, .int .u64 p, .int .u8 b] w fun e w' => e = .returned (.int .u8 (bits .xor .u8 b (bt key (p % key.size)))) ∧ w = w' := by
  have hin : 0 ≤ (p : Int) % (key.size : Int) ∧ (p : Int) % (key.size : Int) < (key.size : Int) := ⟨Int.emod_nonneg _ (by omega), Int.emod_lt_of_pos _ (by omega)⟩
  have HF := Lib.hid (bt_at key (p % key.size) (Nat.mod_lt _ (by omega)))
  go_enter Try.func20, Try.ntmps20
  go_wp2_with fail
  go_ret
  exact ⟨ret_int (by rw [← HF.out]), rfl⟩
set_option maxRecDepth 100000 in
theorem turned_any (key : ByteArray) (n : Nat) (t : ByteArray) (w : World) (hk1 : 1 ≤ key.size) (hk2 : key.size ≤ 16) (hn : n ≤ 1000000) (ht : t.size ≤ 1048576) :
    Calls Try.prog 19 #[.func (.func 20) #[.string key] #[], .int .u64 n, .string t] w fun e w' => e = .returned (.string (lkS key n t)) ∧ Below w.heap.size w w' := by
  obtain ⟨i0, hi, hz0, hz1, hz2⟩ := info_parts infoU8
  go_enter Try.func19, Try.ntmps19
  go_wp2_with (at_make; refine wpList_make_full _ rfl (.tmp 10) (.tmp 10) 22 rfl w.heap.size 5 i0 (.int .u8 0) 1 Try.underlying22 hi hz0 hz1 .i64 .i64 _ _ t.size rfl rfl rfl rfl (by rw [hz2]; omega) (by unfold maxLen; omega) (Nat.le_refl _) ?_; intro w1 hown1 hgrow1)
  have hb1 : Below w.heap.size w w1 := (Below.refl _ _).grown hgrow1 (Nat.le_refl _) (fun k hk => by cases hk)
  have hL1 : LkAt w1 w.heap.size t.size (lkM key n t (fun _ => 0) 0) := lk_made hown1
  have hg1 : w.heap.size < w1.heap.size := (hown1.lt _ rfl).2
  clear hown1 hgrow1
  go_loopw [14] (fun i wr => ∃ k : Nat, k ≤ t.size ∧ i = .int .i64 k ∧ LkAt wr w.heap.size t.size (lkM key n t (fun _ => 0) k) ∧ Below w.heap.size w wr ∧ w.heap.size < wr.heap.size) (fun i _ => t.size - (intOf i).toNat)
  case atStart => exact ⟨0, Nat.zero_le _, rfl, hL1, hb1, hg1⟩
  case round =>
    obtain ⟨k, hk, rfl, hL, hB, hg⟩ := hrel
    clear hL1 hb1 hg1
    by_cases hlt : k < t.size
    · have hck := hL.cell k hlt
      have hfk := hL.free k hlt
      have hS := lk_loop hL
      have HS := Lib.hid hS
      have HL := Lib.hid hL
      have HB := Lib.hid hB
      have hsum : IntKind.u64.wrap ((n : Int) + (k : Int)) = ((n + k : Nat) : Int) := by rw [IntKind.wrap_u64]; omega
      have hin : (k : Int) < (t.size : Int) := by omega
      have hx := bt_at t k hlt
      have HX : Hid (bits .xor .u8 (((t[k]'hlt).toNat : Nat) : Int) (bt key ((n + k) % key.size)) = lkB key n t k) := Lib.hid (by rw [hx, Nat.add_comm]; rfl)
      have hcall := turn_any key (n + k) (((t[k]'hlt).toNat : Nat) : Int) wr hk1 hk2 (by omega)
      rw [HX.out, Int.natCast_add] at hcall
      have HCALL := Lib.hid hcall
      clear hS hL hB hx hcall
      go_wp2_with fail
      refine HCALL.out.mono ?_
      rintro e w2 ⟨rfl, rfl⟩
      have HB2 : Hid (Below w.heap.size w (wr.setCell ⟨w.heap.size, k, none⟩ (.int .u8 (lkB key n t k)))) := Lib.hid (HB.out.setCell (Nat.le_refl _) _)
      have hg2 : w.heap.size < (wr.setCell ⟨w.heap.size, k, none⟩ (.int .u8 (lkB key n t k))).heap.size := by simpa using hg
      generalize lkB key n t k = y at *
      go_wp2_with fail
      go_roundw
      case rel => exact ⟨k + 1, by omega, by go_num, HS.out, HB2.out, hg2⟩
      case measure => simp [intOf]; omega
    · have hcv := conv_lk 22 9 5 Try.underlying22 Try.underlying5 Try.underlying9 (cap := t.size) hL (by omega)
      have HB := Lib.hid hB
      clear hL hB
      go_wp2_with fail
      go_ret
      exact ⟨rfl, HB.out⟩
end Go.Proofs.Ytooggohnoookiaa
