/- What a seal is good for: it comes back, and with one byte turned it is refused. Nothing of the program's text is walked here. -/
import Derived.Test.YtdgafigmgiepdaaDoorMCrcMath
import Derived.Lib.Strings
import Derived.Laws.BytesArg
namespace Go.Proofs.YtdgafigmgiepdaaDoor.MCrc
open Go.PlainAid
theorem four_inj {c d : Int} (hc : 0 ≤ c ∧ c ≤ 4294967295) (hd : 0 ≤ d ∧ d ≤ 4294967295) (h : strOfNums [c % 256, c / 256 % 256, c / 65536 % 256, c / 16777216] = strOfNums [d % 256, d / 256 % 256, d / 65536 % 256, d / 16777216]) : c = d := by
  have h1 : (strOfNums [c % 256, c / 256 % 256, c / 65536 % 256, c / 16777216]).data.toList = (strOfNums [d % 256, d / 256 % 256, d / 65536 % 256, d / 16777216]).data.toList := by rw [h]
  rw [strOfNums_data, strOfNums_data] at h1
  simp only [List.map_cons, List.map_nil, List.cons.injEq, and_true] at h1
  obtain ⟨a1, a2, a3, a4⟩ := h1
  have inj : ∀ x y : Int, 0 ≤ x → x ≤ 255 → 0 ≤ y → y ≤ 255 → UInt8.ofNat x.toNat = UInt8.ofNat y.toNat → x = y := by
    intro x y hx0 hx1 hy0 hy1 e
    have e1 := congrArg UInt8.toNat e
    rw [UInt8.toNat_ofNat', UInt8.toNat_ofNat'] at e1
    omega
  have b1 := inj _ _ (by omega) (by omega) (by omega) (by omega) a1
  have b2 := inj _ _ (by omega) (by omega) (by omega) (by omega) a2
  have b3 := inj _ _ (by omega) (by omega) (by omega) (by omega) a3
  have b4 := inj _ _ (by omega) (by omega) (by omega) (by omega) a4
  omega
theorem ext_bt {s s' : ByteArray} (hs : s.size = s'.size) (h : ∀ i, i < s.size → bt s i = bt s' i) : s = s' := by
  apply ByteArray.ext
  apply Array.ext
  · simpa using hs
  · intro i h1 h2
    have h3 : i < s.size := by simpa using h1
    have h4 : i < s'.size := by simpa using h2
    have := h i h3
    unfold bt at this
    rw [dif_pos h3, dif_pos h4] at this
    have h5 : s[i].toNat = s'[i].toNat := by exact_mod_cast this
    exact UInt8.toNat_inj.1 h5
theorem bt_extract {s : ByteArray} {a b i : Nat} (hb : b ≤ s.size) (hi : i < b - a) : bt (s.extract a b) i = bt s (a + i) := by
  unfold bt
  rw [dif_pos (by rw [ByteArray.size_extract]; omega), dif_pos (by omega)]
  congr 2
  simp [ByteArray.getElem_extract]
end Go.Proofs.YtdgafigmgiepdaaDoor.MCrc
