/- Scripts, the program's: what a word has behind it. -/
import Derived.Test.YtomojokamaibaaaScA
namespace Go.Proofs.Ytomojokamaibaaa
open Go.RowKit Go.PlainAid G MGF IRow Sc M2
set_option linter.unusedVariables false
theorem kind_at {w x : ByteArray} (h : w = x) : kindOf w = kindOf x := by rw [h]
set_option maxRecDepth 100000 in
set_option maxHeartbeats 3200000 in
theorem hasBehind_any (x : ByteArray) (w : World) :
    Calls Try.prog 17 #[.string x] w fun e w' => e = .returned (.tuple #[.int .i64 ((kindOf x).1 : Nat), .int .i64 ((kindOf x).2.1 : Nat), .bool (kindOf x).2.2]) ∧ w = w' := by
  by_cases h0 : x = (⟨#[112, 117, 116]⟩ : ByteArray)
  · have HK := Lib.hid (kind_at h0)
    have e0 := lit_eq [112, 117, 116] h0
    clear h0
    go_enter Try.func17, Try.ntmps17
    go_wp2_with fail
    refine bodyPost_ret (v := .tuple #[.int .i64 (2 : Nat), .int .i64 (0 : Nat), .bool true]) (by simp [results, Try.results17, go_sem]) rfl ⟨by rw [HK.out]; rfl, rfl⟩
  by_cases h1 : x = (⟨#[100, 114, 97, 119, 115]⟩ : ByteArray)
  · have HK := Lib.hid (kind_at h1)
    have e0 := lit_ne [112, 117, 116] h0
    have e1 := lit_eq [100, 114, 97, 119, 115] h1
    clear h0 h1
    go_enter Try.func17, Try.ntmps17
    go_wp2_with fail
    refine bodyPost_ret (v := .tuple #[.int .i64 (1 : Nat), .int .i64 (0 : Nat), .bool true]) (by simp [results, Try.results17, go_sem]) rfl ⟨by rw [HK.out]; rfl, rfl⟩
  by_cases h2 : x = (⟨#[103, 101, 116]⟩ : ByteArray)
  · have HK := Lib.hid (kind_at h2)
    have e0 := lit_ne [112, 117, 116] h0
    have e1 := lit_ne [100, 114, 97, 119, 115] h1
    have e2 := lit_eq [103, 101, 116] h2
    clear h0 h1 h2
    go_enter Try.func17, Try.ntmps17
    go_wp2_with fail
    refine bodyPost_ret (v := .tuple #[.int .i64 (1 : Nat), .int .i64 (0 : Nat), .bool true]) (by simp [results, Try.results17, go_sem]) rfl ⟨by rw [HK.out]; rfl, rfl⟩
  by_cases h3 : x = (⟨#[100, 101, 108]⟩ : ByteArray)
  · have HK := Lib.hid (kind_at h3)
    have e0 := lit_ne [112, 117, 116] h0
    have e1 := lit_ne [100, 114, 97, 119, 115] h1
    have e2 := lit_ne [103, 101, 116] h2
    have e3 := lit_eq [100, 101, 108] h3
    clear h0 h1 h2 h3
    go_enter Try.func17, Try.ntmps17
    go_wp2_with fail
    refine bodyPost_ret (v := .tuple #[.int .i64 (1 : Nat), .int .i64 (0 : Nat), .bool true]) (by simp [results, Try.results17, go_sem]) rfl ⟨by rw [HK.out]; rfl, rfl⟩
  by_cases h4 : x = (⟨#[105, 110, 105, 116]⟩ : ByteArray)
  · have HK := Lib.hid (kind_at h4)
    have e0 := lit_ne [112, 117, 116] h0
    have e1 := lit_ne [100, 114, 97, 119, 115] h1
    have e2 := lit_ne [103, 101, 116] h2
    have e3 := lit_ne [100, 101, 108] h3
    have e4 := lit_eq [105, 110, 105, 116] h4
    clear h0 h1 h2 h3 h4
    go_enter Try.func17, Try.ntmps17
    go_wp2_with fail
    refine bodyPost_ret (v := .tuple #[.int .i64 (1 : Nat), .int .i64 (2 : Nat), .bool true]) (by simp [results, Try.results17, go_sem]) rfl ⟨by rw [HK.out]; rfl, rfl⟩
  by_cases h5 : x = (⟨#[114, 101, 107, 101, 121]⟩ : ByteArray)
  · have HK := Lib.hid (kind_at h5)
    have e0 := lit_ne [112, 117, 116] h0
    have e1 := lit_ne [100, 114, 97, 119, 115] h1
    have e2 := lit_ne [103, 101, 116] h2
    have e3 := lit_ne [100, 101, 108] h3
    have e4 := lit_ne [105, 110, 105, 116] h4
    have e5 := lit_eq [114, 101, 107, 101, 121] h5
    clear h0 h1 h2 h3 h4 h5
    go_enter Try.func17, Try.ntmps17
    go_wp2_with fail
    refine bodyPost_ret (v := .tuple #[.int .i64 (0 : Nat), .int .i64 (2 : Nat), .bool true]) (by simp [results, Try.results17, go_sem]) rfl ⟨by rw [HK.out]; rfl, rfl⟩
  by_cases h6 : x = (⟨#[103, 105, 118, 101]⟩ : ByteArray)
  · have HK := Lib.hid (kind_at h6)
    have e0 := lit_ne [112, 117, 116] h0
    have e1 := lit_ne [100, 114, 97, 119, 115] h1
    have e2 := lit_ne [103, 101, 116] h2
    have e3 := lit_ne [100, 101, 108] h3
    have e4 := lit_ne [105, 110, 105, 116] h4
    have e5 := lit_ne [114, 101, 107, 101, 121] h5
    have e6 := lit_eq [103, 105, 118, 101] h6
    clear h0 h1 h2 h3 h4 h5 h6
    go_enter Try.func17, Try.ntmps17
    go_wp2_with fail
    refine bodyPost_ret (v := .tuple #[.int .i64 (0 : Nat), .int .i64 (1 : Nat), .bool true]) (by simp [results, Try.results17, go_sem]) rfl ⟨by rw [HK.out]; rfl, rfl⟩
  by_cases h7 : x = (⟨#[111, 108, 100]⟩ : ByteArray)
  · have HK := Lib.hid (kind_at h7)
    have e0 := lit_ne [112, 117, 116] h0
    have e1 := lit_ne [100, 114, 97, 119, 115] h1
    have e2 := lit_ne [103, 101, 116] h2
    have e3 := lit_ne [100, 101, 108] h3
    have e4 := lit_ne [105, 110, 105, 116] h4
    have e5 := lit_ne [114, 101, 107, 101, 121] h5
    have e6 := lit_ne [103, 105, 118, 101] h6
    have e7 := lit_eq [111, 108, 100] h7
    clear h0 h1 h2 h3 h4 h5 h6 h7
    go_enter Try.func17, Try.ntmps17
    go_wp2_with fail
    refine bodyPost_ret (v := .tuple #[.int .i64 (0 : Nat), .int .i64 (1 : Nat), .bool true]) (by simp [results, Try.results17, go_sem]) rfl ⟨by rw [HK.out]; rfl, rfl⟩
  by_cases h8 : x = (⟨#[112, 97, 114, 116]⟩ : ByteArray)
  · have HK := Lib.hid (kind_at h8)
    have e0 := lit_ne [112, 117, 116] h0
    have e1 := lit_ne [100, 114, 97, 119, 115] h1
    have e2 := lit_ne [103, 101, 116] h2
    have e3 := lit_ne [100, 101, 108] h3
    have e4 := lit_ne [105, 110, 105, 116] h4
    have e5 := lit_ne [114, 101, 107, 101, 121] h5
    have e6 := lit_ne [103, 105, 118, 101] h6
    have e7 := lit_ne [111, 108, 100] h7
    have e8 := lit_eq [112, 97, 114, 116] h8
    clear h0 h1 h2 h3 h4 h5 h6 h7 h8
    go_enter Try.func17, Try.ntmps17
    go_wp2_with fail
    refine bodyPost_ret (v := .tuple #[.int .i64 (0 : Nat), .int .i64 (1 : Nat), .bool true]) (by simp [results, Try.results17, go_sem]) rfl ⟨by rw [HK.out]; rfl, rfl⟩
  by_cases h9 : x = (⟨#[115, 101, 97, 108]⟩ : ByteArray)
  · have HK := Lib.hid (kind_at h9)
    have e0 := lit_ne [112, 117, 116] h0
    have e1 := lit_ne [100, 114, 97, 119, 115] h1
    have e2 := lit_ne [103, 101, 116] h2
    have e3 := lit_ne [100, 101, 108] h3
    have e4 := lit_ne [105, 110, 105, 116] h4
    have e5 := lit_ne [114, 101, 107, 101, 121] h5
    have e6 := lit_ne [103, 105, 118, 101] h6
    have e7 := lit_ne [111, 108, 100] h7
    have e8 := lit_ne [112, 97, 114, 116] h8
    have e9 := lit_eq [115, 101, 97, 108] h9
    clear h0 h1 h2 h3 h4 h5 h6 h7 h8 h9
    go_enter Try.func17, Try.ntmps17
    go_wp2_with fail
    refine bodyPost_ret (v := .tuple #[.int .i64 (0 : Nat), .int .i64 (0 : Nat), .bool true]) (by simp [results, Try.results17, go_sem]) rfl ⟨by rw [HK.out]; rfl, rfl⟩
  by_cases h10 : x = (⟨#[108, 105, 115, 116]⟩ : ByteArray)
  · have HK := Lib.hid (kind_at h10)
    have e0 := lit_ne [112, 117, 116] h0
    have e1 := lit_ne [100, 114, 97, 119, 115] h1
    have e2 := lit_ne [103, 101, 116] h2
    have e3 := lit_ne [100, 101, 108] h3
    have e4 := lit_ne [105, 110, 105, 116] h4
    have e5 := lit_ne [114, 101, 107, 101, 121] h5
    have e6 := lit_ne [103, 105, 118, 101] h6
    have e7 := lit_ne [111, 108, 100] h7
    have e8 := lit_ne [112, 97, 114, 116] h8
    have e9 := lit_ne [115, 101, 97, 108] h9
    have e10 := lit_eq [108, 105, 115, 116] h10
    clear h0 h1 h2 h3 h4 h5 h6 h7 h8 h9 h10
    go_enter Try.func17, Try.ntmps17
    go_wp2_with fail
    refine bodyPost_ret (v := .tuple #[.int .i64 (0 : Nat), .int .i64 (0 : Nat), .bool true]) (by simp [results, Try.results17, go_sem]) rfl ⟨by rw [HK.out]; rfl, rfl⟩
  by_cases h11 : x = (⟨#[116, 117, 114, 110]⟩ : ByteArray)
  · have HK := Lib.hid (kind_at h11)
    have e0 := lit_ne [112, 117, 116] h0
    have e1 := lit_ne [100, 114, 97, 119, 115] h1
    have e2 := lit_ne [103, 101, 116] h2
    have e3 := lit_ne [100, 101, 108] h3
    have e4 := lit_ne [105, 110, 105, 116] h4
    have e5 := lit_ne [114, 101, 107, 101, 121] h5
    have e6 := lit_ne [103, 105, 118, 101] h6
    have e7 := lit_ne [111, 108, 100] h7
    have e8 := lit_ne [112, 97, 114, 116] h8
    have e9 := lit_ne [115, 101, 97, 108] h9
    have e10 := lit_ne [108, 105, 115, 116] h10
    have e11 := lit_eq [116, 117, 114, 110] h11
    clear h0 h1 h2 h3 h4 h5 h6 h7 h8 h9 h10 h11
    go_enter Try.func17, Try.ntmps17
    go_wp2_with fail
    refine bodyPost_ret (v := .tuple #[.int .i64 (0 : Nat), .int .i64 (0 : Nat), .bool true]) (by simp [results, Try.results17, go_sem]) rfl ⟨by rw [HK.out]; rfl, rfl⟩
  by_cases h12 : x = (⟨#[113, 117, 105, 116]⟩ : ByteArray)
  · have HK := Lib.hid (kind_at h12)
    have e0 := lit_ne [112, 117, 116] h0
    have e1 := lit_ne [100, 114, 97, 119, 115] h1
    have e2 := lit_ne [103, 101, 116] h2
    have e3 := lit_ne [100, 101, 108] h3
    have e4 := lit_ne [105, 110, 105, 116] h4
    have e5 := lit_ne [114, 101, 107, 101, 121] h5
    have e6 := lit_ne [103, 105, 118, 101] h6
    have e7 := lit_ne [111, 108, 100] h7
    have e8 := lit_ne [112, 97, 114, 116] h8
    have e9 := lit_ne [115, 101, 97, 108] h9
    have e10 := lit_ne [108, 105, 115, 116] h10
    have e11 := lit_ne [116, 117, 114, 110] h11
    have e12 := lit_eq [113, 117, 105, 116] h12
    clear h0 h1 h2 h3 h4 h5 h6 h7 h8 h9 h10 h11 h12
    go_enter Try.func17, Try.ntmps17
    go_wp2_with fail
    refine bodyPost_ret (v := .tuple #[.int .i64 (0 : Nat), .int .i64 (0 : Nat), .bool true]) (by simp [results, Try.results17, go_sem]) rfl ⟨by rw [HK.out]; rfl, rfl⟩
  by_cases h13 : x = (⟨#[114, 101, 98, 111, 111, 116]⟩ : ByteArray)
  · have HK := Lib.hid (kind_at h13)
    have e0 := lit_ne [112, 117, 116] h0
    have e1 := lit_ne [100, 114, 97, 119, 115] h1
    have e2 := lit_ne [103, 101, 116] h2
    have e3 := lit_ne [100, 101, 108] h3
    have e4 := lit_ne [105, 110, 105, 116] h4
    have e5 := lit_ne [114, 101, 107, 101, 121] h5
    have e6 := lit_ne [103, 105, 118, 101] h6
    have e7 := lit_ne [111, 108, 100] h7
    have e8 := lit_ne [112, 97, 114, 116] h8
    have e9 := lit_ne [115, 101, 97, 108] h9
    have e10 := lit_ne [108, 105, 115, 116] h10
    have e11 := lit_ne [116, 117, 114, 110] h11
    have e12 := lit_ne [113, 117, 105, 116] h12
    have e13 := lit_eq [114, 101, 98, 111, 111, 116] h13
    clear h0 h1 h2 h3 h4 h5 h6 h7 h8 h9 h10 h11 h12 h13
    go_enter Try.func17, Try.ntmps17
    go_wp2_with fail
    refine bodyPost_ret (v := .tuple #[.int .i64 (0 : Nat), .int .i64 (0 : Nat), .bool true]) (by simp [results, Try.results17, go_sem]) rfl ⟨by rw [HK.out]; rfl, rfl⟩
  have HK := Lib.hid (show kindOf x = (0, 0, false) by unfold kindOf; rw [if_neg h0, if_neg h1, if_neg h2, if_neg h3, if_neg h4, if_neg h5, if_neg h6, if_neg h7, if_neg h8, if_neg h9, if_neg h10, if_neg h11, if_neg h12, if_neg h13])
  have e0 := lit_ne [112, 117, 116] h0
  have e1 := lit_ne [100, 114, 97, 119, 115] h1
  have e2 := lit_ne [103, 101, 116] h2
  have e3 := lit_ne [100, 101, 108] h3
  have e4 := lit_ne [105, 110, 105, 116] h4
  have e5 := lit_ne [114, 101, 107, 101, 121] h5
  have e6 := lit_ne [103, 105, 118, 101] h6
  have e7 := lit_ne [111, 108, 100] h7
  have e8 := lit_ne [112, 97, 114, 116] h8
  have e9 := lit_ne [115, 101, 97, 108] h9
  have e10 := lit_ne [108, 105, 115, 116] h10
  have e11 := lit_ne [116, 117, 114, 110] h11
  have e12 := lit_ne [113, 117, 105, 116] h12
  have e13 := lit_ne [114, 101, 98, 111, 111, 116] h13
  clear h0 h1 h2 h3 h4 h5 h6 h7 h8 h9 h10 h11 h12 h13
  go_enter Try.func17, Try.ntmps17
  go_wp2_with fail
  refine bodyPost_ret (v := .tuple #[.int .i64 (0 : Nat), .int .i64 (0 : Nat), .bool false]) (by simp [results, Try.results17, go_sem]) rfl ⟨by rw [HK.out], rfl⟩
end Go.Proofs.Ytomojokamaibaaa
