/- Scripts, the model's: a word's letters, a line read. -/
import Derived.Test.YtomojokamaibaaaScE
namespace Go.Proofs.Ytomojokamaibaaa
open Go.RowKit Go.PlainAid G MGF IRow Sc M2
set_option linter.unusedVariables false
theorem takes_at {w x : ByteArray} (h : w = x) : takesOf w = takesOf x := by rw [h]
set_option maxRecDepth 100000 in
set_option maxHeartbeats 3200000 in
theorem l11Takes_any (x : ByteArray) (w : World) :
    Calls Try.prog 14 #[.string x] w fun e w' => e = .returned (.string (takesOf x)) ∧ w = w' := by
  by_cases h0 : x = (⟨#[112, 117, 116]⟩ : ByteArray)
  · have HK := Lib.hid (takes_at h0)
    have e0 := lit_eq [112, 117, 116] h0
    have e1 := lit_ne (x := x) [100, 114, 97, 119, 115] (by rw [h0]; decide)
    have e2 := lit_ne (x := x) [103, 101, 116] (by rw [h0]; decide)
    have e3 := lit_ne (x := x) [100, 101, 108] (by rw [h0]; decide)
    have e4 := lit_ne (x := x) [105, 110, 105, 116] (by rw [h0]; decide)
    have e5 := lit_ne (x := x) [114, 101, 107, 101, 121] (by rw [h0]; decide)
    have e6 := lit_ne (x := x) [103, 105, 118, 101] (by rw [h0]; decide)
    have e7 := lit_ne (x := x) [111, 108, 100] (by rw [h0]; decide)
    have e8 := lit_ne (x := x) [112, 97, 114, 116] (by rw [h0]; decide)
    have e9 := lit_ne (x := x) [115, 101, 97, 108] (by rw [h0]; decide)
    have e10 := lit_ne (x := x) [108, 105, 115, 116] (by rw [h0]; decide)
    have e11 := lit_ne (x := x) [116, 117, 114, 110] (by rw [h0]; decide)
    have e12 := lit_ne (x := x) [113, 117, 105, 116] (by rw [h0]; decide)
    have e13 := lit_ne (x := x) [114, 101, 98, 111, 111, 116] (by rw [h0]; decide)
    clear h0
    go_enter Try.func14, Try.ntmps14
    go_wp2_with fail
    go_ret
    exact ⟨by rw [HK.out]; rfl, rfl⟩
  by_cases h1 : x = (⟨#[100, 114, 97, 119, 115]⟩ : ByteArray)
  · have HK := Lib.hid (takes_at h1)
    have e0 := lit_ne [112, 117, 116] h0
    have e1 := lit_eq [100, 114, 97, 119, 115] h1
    have e2 := lit_ne (x := x) [103, 101, 116] (by rw [h1]; decide)
    have e3 := lit_ne (x := x) [100, 101, 108] (by rw [h1]; decide)
    have e4 := lit_ne (x := x) [105, 110, 105, 116] (by rw [h1]; decide)
    have e5 := lit_ne (x := x) [114, 101, 107, 101, 121] (by rw [h1]; decide)
    have e6 := lit_ne (x := x) [103, 105, 118, 101] (by rw [h1]; decide)
    have e7 := lit_ne (x := x) [111, 108, 100] (by rw [h1]; decide)
    have e8 := lit_ne (x := x) [112, 97, 114, 116] (by rw [h1]; decide)
    have e9 := lit_ne (x := x) [115, 101, 97, 108] (by rw [h1]; decide)
    have e10 := lit_ne (x := x) [108, 105, 115, 116] (by rw [h1]; decide)
    have e11 := lit_ne (x := x) [116, 117, 114, 110] (by rw [h1]; decide)
    have e12 := lit_ne (x := x) [113, 117, 105, 116] (by rw [h1]; decide)
    have e13 := lit_ne (x := x) [114, 101, 98, 111, 111, 116] (by rw [h1]; decide)
    clear h0 h1
    go_enter Try.func14, Try.ntmps14
    go_wp2_with fail
    go_ret
    exact ⟨by rw [HK.out]; rfl, rfl⟩
  by_cases h2 : x = (⟨#[103, 101, 116]⟩ : ByteArray)
  · have HK := Lib.hid (takes_at h2)
    have e0 := lit_ne [112, 117, 116] h0
    have e1 := lit_ne [100, 114, 97, 119, 115] h1
    have e2 := lit_eq [103, 101, 116] h2
    have e3 := lit_ne (x := x) [100, 101, 108] (by rw [h2]; decide)
    have e4 := lit_ne (x := x) [105, 110, 105, 116] (by rw [h2]; decide)
    have e5 := lit_ne (x := x) [114, 101, 107, 101, 121] (by rw [h2]; decide)
    have e6 := lit_ne (x := x) [103, 105, 118, 101] (by rw [h2]; decide)
    have e7 := lit_ne (x := x) [111, 108, 100] (by rw [h2]; decide)
    have e8 := lit_ne (x := x) [112, 97, 114, 116] (by rw [h2]; decide)
    have e9 := lit_ne (x := x) [115, 101, 97, 108] (by rw [h2]; decide)
    have e10 := lit_ne (x := x) [108, 105, 115, 116] (by rw [h2]; decide)
    have e11 := lit_ne (x := x) [116, 117, 114, 110] (by rw [h2]; decide)
    have e12 := lit_ne (x := x) [113, 117, 105, 116] (by rw [h2]; decide)
    have e13 := lit_ne (x := x) [114, 101, 98, 111, 111, 116] (by rw [h2]; decide)
    clear h0 h1 h2
    go_enter Try.func14, Try.ntmps14
    go_wp2_with fail
    go_ret
    exact ⟨by rw [HK.out]; rfl, rfl⟩
  by_cases h3 : x = (⟨#[100, 101, 108]⟩ : ByteArray)
  · have HK := Lib.hid (takes_at h3)
    have e0 := lit_ne [112, 117, 116] h0
    have e1 := lit_ne [100, 114, 97, 119, 115] h1
    have e2 := lit_ne [103, 101, 116] h2
    have e3 := lit_eq [100, 101, 108] h3
    have e4 := lit_ne (x := x) [105, 110, 105, 116] (by rw [h3]; decide)
    have e5 := lit_ne (x := x) [114, 101, 107, 101, 121] (by rw [h3]; decide)
    have e6 := lit_ne (x := x) [103, 105, 118, 101] (by rw [h3]; decide)
    have e7 := lit_ne (x := x) [111, 108, 100] (by rw [h3]; decide)
    have e8 := lit_ne (x := x) [112, 97, 114, 116] (by rw [h3]; decide)
    have e9 := lit_ne (x := x) [115, 101, 97, 108] (by rw [h3]; decide)
    have e10 := lit_ne (x := x) [108, 105, 115, 116] (by rw [h3]; decide)
    have e11 := lit_ne (x := x) [116, 117, 114, 110] (by rw [h3]; decide)
    have e12 := lit_ne (x := x) [113, 117, 105, 116] (by rw [h3]; decide)
    have e13 := lit_ne (x := x) [114, 101, 98, 111, 111, 116] (by rw [h3]; decide)
    clear h0 h1 h2 h3
    go_enter Try.func14, Try.ntmps14
    go_wp2_with fail
    go_ret
    exact ⟨by rw [HK.out]; rfl, rfl⟩
  by_cases h4 : x = (⟨#[105, 110, 105, 116]⟩ : ByteArray)
  · have HK := Lib.hid (takes_at h4)
    have e0 := lit_ne [112, 117, 116] h0
    have e1 := lit_ne [100, 114, 97, 119, 115] h1
    have e2 := lit_ne [103, 101, 116] h2
    have e3 := lit_ne [100, 101, 108] h3
    have e4 := lit_eq [105, 110, 105, 116] h4
    have e5 := lit_ne (x := x) [114, 101, 107, 101, 121] (by rw [h4]; decide)
    have e6 := lit_ne (x := x) [103, 105, 118, 101] (by rw [h4]; decide)
    have e7 := lit_ne (x := x) [111, 108, 100] (by rw [h4]; decide)
    have e8 := lit_ne (x := x) [112, 97, 114, 116] (by rw [h4]; decide)
    have e9 := lit_ne (x := x) [115, 101, 97, 108] (by rw [h4]; decide)
    have e10 := lit_ne (x := x) [108, 105, 115, 116] (by rw [h4]; decide)
    have e11 := lit_ne (x := x) [116, 117, 114, 110] (by rw [h4]; decide)
    have e12 := lit_ne (x := x) [113, 117, 105, 116] (by rw [h4]; decide)
    have e13 := lit_ne (x := x) [114, 101, 98, 111, 111, 116] (by rw [h4]; decide)
    clear h0 h1 h2 h3 h4
    go_enter Try.func14, Try.ntmps14
    go_wp2_with fail
    go_ret
    exact ⟨by rw [HK.out]; rfl, rfl⟩
  by_cases h5 : x = (⟨#[114, 101, 107, 101, 121]⟩ : ByteArray)
  · have HK := Lib.hid (takes_at h5)
    have e0 := lit_ne [112, 117, 116] h0
    have e1 := lit_ne [100, 114, 97, 119, 115] h1
    have e2 := lit_ne [103, 101, 116] h2
    have e3 := lit_ne [100, 101, 108] h3
    have e4 := lit_ne [105, 110, 105, 116] h4
    have e5 := lit_eq [114, 101, 107, 101, 121] h5
    have e6 := lit_ne (x := x) [103, 105, 118, 101] (by rw [h5]; decide)
    have e7 := lit_ne (x := x) [111, 108, 100] (by rw [h5]; decide)
    have e8 := lit_ne (x := x) [112, 97, 114, 116] (by rw [h5]; decide)
    have e9 := lit_ne (x := x) [115, 101, 97, 108] (by rw [h5]; decide)
    have e10 := lit_ne (x := x) [108, 105, 115, 116] (by rw [h5]; decide)
    have e11 := lit_ne (x := x) [116, 117, 114, 110] (by rw [h5]; decide)
    have e12 := lit_ne (x := x) [113, 117, 105, 116] (by rw [h5]; decide)
    have e13 := lit_ne (x := x) [114, 101, 98, 111, 111, 116] (by rw [h5]; decide)
    clear h0 h1 h2 h3 h4 h5
    go_enter Try.func14, Try.ntmps14
    go_wp2_with fail
    go_ret
    exact ⟨by rw [HK.out]; rfl, rfl⟩
  by_cases h6 : x = (⟨#[103, 105, 118, 101]⟩ : ByteArray)
  · have HK := Lib.hid (takes_at h6)
    have e0 := lit_ne [112, 117, 116] h0
    have e1 := lit_ne [100, 114, 97, 119, 115] h1
    have e2 := lit_ne [103, 101, 116] h2
    have e3 := lit_ne [100, 101, 108] h3
    have e4 := lit_ne [105, 110, 105, 116] h4
    have e5 := lit_ne [114, 101, 107, 101, 121] h5
    have e6 := lit_eq [103, 105, 118, 101] h6
    have e7 := lit_ne (x := x) [111, 108, 100] (by rw [h6]; decide)
    have e8 := lit_ne (x := x) [112, 97, 114, 116] (by rw [h6]; decide)
    have e9 := lit_ne (x := x) [115, 101, 97, 108] (by rw [h6]; decide)
    have e10 := lit_ne (x := x) [108, 105, 115, 116] (by rw [h6]; decide)
    have e11 := lit_ne (x := x) [116, 117, 114, 110] (by rw [h6]; decide)
    have e12 := lit_ne (x := x) [113, 117, 105, 116] (by rw [h6]; decide)
    have e13 := lit_ne (x := x) [114, 101, 98, 111, 111, 116] (by rw [h6]; decide)
    clear h0 h1 h2 h3 h4 h5 h6
    go_enter Try.func14, Try.ntmps14
    go_wp2_with fail
    go_ret
    exact ⟨by rw [HK.out]; rfl, rfl⟩
  by_cases h7 : x = (⟨#[111, 108, 100]⟩ : ByteArray)
  · have HK := Lib.hid (takes_at h7)
    have e0 := lit_ne [112, 117, 116] h0
    have e1 := lit_ne [100, 114, 97, 119, 115] h1
    have e2 := lit_ne [103, 101, 116] h2
    have e3 := lit_ne [100, 101, 108] h3
    have e4 := lit_ne [105, 110, 105, 116] h4
    have e5 := lit_ne [114, 101, 107, 101, 121] h5
    have e6 := lit_ne [103, 105, 118, 101] h6
    have e7 := lit_eq [111, 108, 100] h7
    have e8 := lit_ne (x := x) [112, 97, 114, 116] (by rw [h7]; decide)
    have e9 := lit_ne (x := x) [115, 101, 97, 108] (by rw [h7]; decide)
    have e10 := lit_ne (x := x) [108, 105, 115, 116] (by rw [h7]; decide)
    have e11 := lit_ne (x := x) [116, 117, 114, 110] (by rw [h7]; decide)
    have e12 := lit_ne (x := x) [113, 117, 105, 116] (by rw [h7]; decide)
    have e13 := lit_ne (x := x) [114, 101, 98, 111, 111, 116] (by rw [h7]; decide)
    clear h0 h1 h2 h3 h4 h5 h6 h7
    go_enter Try.func14, Try.ntmps14
    go_wp2_with fail
    go_ret
    exact ⟨by rw [HK.out]; rfl, rfl⟩
  by_cases h8 : x = (⟨#[112, 97, 114, 116]⟩ : ByteArray)
  · have HK := Lib.hid (takes_at h8)
    have e0 := lit_ne [112, 117, 116] h0
    have e1 := lit_ne [100, 114, 97, 119, 115] h1
    have e2 := lit_ne [103, 101, 116] h2
    have e3 := lit_ne [100, 101, 108] h3
    have e4 := lit_ne [105, 110, 105, 116] h4
    have e5 := lit_ne [114, 101, 107, 101, 121] h5
    have e6 := lit_ne [103, 105, 118, 101] h6
    have e7 := lit_ne [111, 108, 100] h7
    have e8 := lit_eq [112, 97, 114, 116] h8
    have e9 := lit_ne (x := x) [115, 101, 97, 108] (by rw [h8]; decide)
    have e10 := lit_ne (x := x) [108, 105, 115, 116] (by rw [h8]; decide)
    have e11 := lit_ne (x := x) [116, 117, 114, 110] (by rw [h8]; decide)
    have e12 := lit_ne (x := x) [113, 117, 105, 116] (by rw [h8]; decide)
    have e13 := lit_ne (x := x) [114, 101, 98, 111, 111, 116] (by rw [h8]; decide)
    clear h0 h1 h2 h3 h4 h5 h6 h7 h8
    go_enter Try.func14, Try.ntmps14
    go_wp2_with fail
    go_ret
    exact ⟨by rw [HK.out]; rfl, rfl⟩
  by_cases h9 : x = (⟨#[115, 101, 97, 108]⟩ : ByteArray)
  · have HK := Lib.hid (takes_at h9)
    have e0 := lit_ne [112, 117, 116] h0
    have e1 := lit_ne [100, 114, 97, 119, 115] h1
    have e2 := lit_ne [103, 101, 116] h2
    have e3 := lit_ne [100, 101, 108] h3
    have e4 := lit_ne [105, 110, 105, 116] h4
    have e5 := lit_ne [114, 101, 107, 101, 121] h5
    have e6 := lit_ne [103, 105, 118, 101] h6
    have e7 := lit_ne [111, 108, 100] h7
    have e8 := lit_ne [112, 97, 114, 116] h8
    have e9 := lit_eq [115, 101, 97, 108] h9
    have e10 := lit_ne (x := x) [108, 105, 115, 116] (by rw [h9]; decide)
    have e11 := lit_ne (x := x) [116, 117, 114, 110] (by rw [h9]; decide)
    have e12 := lit_ne (x := x) [113, 117, 105, 116] (by rw [h9]; decide)
    have e13 := lit_ne (x := x) [114, 101, 98, 111, 111, 116] (by rw [h9]; decide)
    clear h0 h1 h2 h3 h4 h5 h6 h7 h8 h9
    go_enter Try.func14, Try.ntmps14
    go_wp2_with fail
    go_ret
    exact ⟨by rw [HK.out]; rfl, rfl⟩
  by_cases h10 : x = (⟨#[108, 105, 115, 116]⟩ : ByteArray)
  · have HK := Lib.hid (takes_at h10)
    have e0 := lit_ne [112, 117, 116] h0
    have e1 := lit_ne [100, 114, 97, 119, 115] h1
    have e2 := lit_ne [103, 101, 116] h2
    have e3 := lit_ne [100, 101, 108] h3
    have e4 := lit_ne [105, 110, 105, 116] h4
    have e5 := lit_ne [114, 101, 107, 101, 121] h5
    have e6 := lit_ne [103, 105, 118, 101] h6
    have e7 := lit_ne [111, 108, 100] h7
    have e8 := lit_ne [112, 97, 114, 116] h8
    have e9 := lit_ne [115, 101, 97, 108] h9
    have e10 := lit_eq [108, 105, 115, 116] h10
    have e11 := lit_ne (x := x) [116, 117, 114, 110] (by rw [h10]; decide)
    have e12 := lit_ne (x := x) [113, 117, 105, 116] (by rw [h10]; decide)
    have e13 := lit_ne (x := x) [114, 101, 98, 111, 111, 116] (by rw [h10]; decide)
    clear h0 h1 h2 h3 h4 h5 h6 h7 h8 h9 h10
    go_enter Try.func14, Try.ntmps14
    go_wp2_with fail
    go_ret
    exact ⟨by rw [HK.out]; rfl, rfl⟩
  by_cases h11 : x = (⟨#[116, 117, 114, 110]⟩ : ByteArray)
  · have HK := Lib.hid (takes_at h11)
    have e0 := lit_ne [112, 117, 116] h0
    have e1 := lit_ne [100, 114, 97, 119, 115] h1
    have e2 := lit_ne [103, 101, 116] h2
    have e3 := lit_ne [100, 101, 108] h3
    have e4 := lit_ne [105, 110, 105, 116] h4
    have e5 := lit_ne [114, 101, 107, 101, 121] h5
    have e6 := lit_ne [103, 105, 118, 101] h6
    have e7 := lit_ne [111, 108, 100] h7
    have e8 := lit_ne [112, 97, 114, 116] h8
    have e9 := lit_ne [115, 101, 97, 108] h9
    have e10 := lit_ne [108, 105, 115, 116] h10
    have e11 := lit_eq [116, 117, 114, 110] h11
    have e12 := lit_ne (x := x) [113, 117, 105, 116] (by rw [h11]; decide)
    have e13 := lit_ne (x := x) [114, 101, 98, 111, 111, 116] (by rw [h11]; decide)
    clear h0 h1 h2 h3 h4 h5 h6 h7 h8 h9 h10 h11
    go_enter Try.func14, Try.ntmps14
    go_wp2_with fail
    go_ret
    exact ⟨by rw [HK.out]; rfl, rfl⟩
  by_cases h12 : x = (⟨#[113, 117, 105, 116]⟩ : ByteArray)
  · have HK := Lib.hid (takes_at h12)
    have e0 := lit_ne [112, 117, 116] h0
    have e1 := lit_ne [100, 114, 97, 119, 115] h1
    have e2 := lit_ne [103, 101, 116] h2
    have e3 := lit_ne [100, 101, 108] h3
    have e4 := lit_ne [105, 110, 105, 116] h4
    have e5 := lit_ne [114, 101, 107, 101, 121] h5
    have e6 := lit_ne [103, 105, 118, 101] h6
    have e7 := lit_ne [111, 108, 100] h7
    have e8 := lit_ne [112, 97, 114, 116] h8
    have e9 := lit_ne [115, 101, 97, 108] h9
    have e10 := lit_ne [108, 105, 115, 116] h10
    have e11 := lit_ne [116, 117, 114, 110] h11
    have e12 := lit_eq [113, 117, 105, 116] h12
    have e13 := lit_ne (x := x) [114, 101, 98, 111, 111, 116] (by rw [h12]; decide)
    clear h0 h1 h2 h3 h4 h5 h6 h7 h8 h9 h10 h11 h12
    go_enter Try.func14, Try.ntmps14
    go_wp2_with fail
    go_ret
    exact ⟨by rw [HK.out]; rfl, rfl⟩
  by_cases h13 : x = (⟨#[114, 101, 98, 111, 111, 116]⟩ : ByteArray)
  · have HK := Lib.hid (takes_at h13)
    have e0 := lit_ne [112, 117, 116] h0
    have e1 := lit_ne [100, 114, 97, 119, 115] h1
    have e2 := lit_ne [103, 101, 116] h2
    have e3 := lit_ne [100, 101, 108] h3
    have e4 := lit_ne [105, 110, 105, 116] h4
    have e5 := lit_ne [114, 101, 107, 101, 121] h5
    have e6 := lit_ne [103, 105, 118, 101] h6
    have e7 := lit_ne [111, 108, 100] h7
    have e8 := lit_ne [112, 97, 114, 116] h8
    have e9 := lit_ne [115, 101, 97, 108] h9
    have e10 := lit_ne [108, 105, 115, 116] h10
    have e11 := lit_ne [116, 117, 114, 110] h11
    have e12 := lit_ne [113, 117, 105, 116] h12
    have e13 := lit_eq [114, 101, 98, 111, 111, 116] h13
    clear h0 h1 h2 h3 h4 h5 h6 h7 h8 h9 h10 h11 h12 h13
    go_enter Try.func14, Try.ntmps14
    go_wp2_with fail
    go_ret
    exact ⟨by rw [HK.out]; rfl, rfl⟩
  have HK := Lib.hid (show takesOf x = ⟨#[45]⟩ by unfold takesOf; rw [if_neg h0, if_neg h1, if_neg h2, if_neg h3, if_neg h4, if_neg h5, if_neg h6, if_neg h7, if_neg h8, if_neg h9, if_neg h10, if_neg h11, if_neg h12, if_neg h13])
  have e0 := lit_ne [112, 117, 116] h0
  have e1 := lit_ne [100, 114, 97, 119, 115] h1
  have e2 := lit_ne [103, 101, 116] h2
  have e3 := lit_ne [100, 101, 108] h3
  have e4 := lit_ne [105, 110, 105, 116] h4
  have e5 := lit_ne [114, 101, 107, 101, 121] h5
  have e6 := lit_ne [103, 105, 118, 101] h6
  have e7 := lit_ne [111, 108, 100] h7
  have e8 := lit_ne [112, 97, 114, 116] h8
  have e9 := lit_ne [115, 101, 97, 108] h9
  have e10 := lit_ne [108, 105, 115, 116] h10
  have e11 := lit_ne [116, 117, 114, 110] h11
  have e12 := lit_ne [113, 117, 105, 116] h12
  have e13 := lit_ne [114, 101, 98, 111, 111, 116] h13
  clear h0 h1 h2 h3 h4 h5 h6 h7 h8 h9 h10 h11 h12 h13
  go_enter Try.func14, Try.ntmps14
  go_wp2_with fail
  go_ret
  exact ⟨by rw [HK.out]; rfl, rfl⟩
theorem takes_small (x : ByteArray) : (takesOf x).size ≤ 3 := by
  by_cases h0 : x = (⟨#[112, 117, 116]⟩ : ByteArray)
  · subst h0; decide
  by_cases h1 : x = (⟨#[100, 114, 97, 119, 115]⟩ : ByteArray)
  · subst h1; decide
  by_cases h2 : x = (⟨#[103, 101, 116]⟩ : ByteArray)
  · subst h2; decide
  by_cases h3 : x = (⟨#[100, 101, 108]⟩ : ByteArray)
  · subst h3; decide
  by_cases h4 : x = (⟨#[105, 110, 105, 116]⟩ : ByteArray)
  · subst h4; decide
  by_cases h5 : x = (⟨#[114, 101, 107, 101, 121]⟩ : ByteArray)
  · subst h5; decide
  by_cases h6 : x = (⟨#[103, 105, 118, 101]⟩ : ByteArray)
  · subst h6; decide
  by_cases h7 : x = (⟨#[111, 108, 100]⟩ : ByteArray)
  · subst h7; decide
  by_cases h8 : x = (⟨#[112, 97, 114, 116]⟩ : ByteArray)
  · subst h8; decide
  by_cases h9 : x = (⟨#[115, 101, 97, 108]⟩ : ByteArray)
  · subst h9; decide
  by_cases h10 : x = (⟨#[108, 105, 115, 116]⟩ : ByteArray)
  · subst h10; decide
  by_cases h11 : x = (⟨#[116, 117, 114, 110]⟩ : ByteArray)
  · subst h11; decide
  by_cases h12 : x = (⟨#[113, 117, 105, 116]⟩ : ByteArray)
  · subst h12; decide
  by_cases h13 : x = (⟨#[114, 101, 98, 111, 111, 116]⟩ : ByteArray)
  · subst h13; decide
  rw [show takesOf x = ⟨#[45]⟩ by unfold takesOf; rw [if_neg h0, if_neg h1, if_neg h2, if_neg h3, if_neg h4, if_neg h5, if_neg h6, if_neg h7, if_neg h8, if_neg h9, if_neg h10, if_neg h11, if_neg h12, if_neg h13]]
  decide
end Go.Proofs.Ytomojokamaibaaa
