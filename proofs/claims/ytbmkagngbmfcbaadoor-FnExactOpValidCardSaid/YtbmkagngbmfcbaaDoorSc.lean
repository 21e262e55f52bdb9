/- Contracts of SumOf in both programs. No condition but that a string has a length. -/
import Derived.Test.YtbmkagngbmfcbaaDoorSm
import Derived.Test.YtbmkagngbmfcbaaDoorBa
namespace Go.Proofs.YtbmkagngbmfcbaaDoor
open Go.ChangeShapes Go.WideShapes Go.ChangeAt Go.RowKit Go.Joins
set_option linter.unusedVariables false

/-- the two numbers of a checksum behind k bytes -/
def SumAt (s : ByteArray) (k x y : Nat) : Prop := x = M.sm (s.data.toList.take k) % 255 ∧ y = M.sw (s.data.toList.take k) % 255
theorem SumAt.next {s : ByteArray} {k x y : Nat} (h : SumAt s k x y) (hk : k < s.size) : SumAt s (k + 1) ((x + (s[k]).toNat) % 255) ((y + (x + (s[k]).toNat) % 255) % 255) := by
  obtain ⟨rfl, rfl⟩ := h
  rw [SumAt, take_snoc s k hk, M.sm_snoc, M.sw_snoc]
  omega
theorem SumAt.whole {s : ByteArray} {k x y : Nat} (h : SumAt s k x y) (hk : s.size ≤ k) : 256 * y + x = M.ck s.data.toList := by
  obtain ⟨rfl, rfl⟩ := h
  rw [List.take_of_length_le (by simpa using hk), M.ck]

theorem ck_end1 {x y K : Nat} (h : 256 * y + x = K) : (y : Int) * 256 + x = K := by omega
theorem ck_end2 {x y K : Nat} (h : 256 * y + x = K) : 256 * (y : Int) + x = K := by omega
end Go.Proofs.YtbmkagngbmfcbaaDoor
