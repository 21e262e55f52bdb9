/- Contracts of SumOf in both programs. No condition but that a string has a length. -/
import Derived.Test.YthhgamnkidkanaaDoorSm
import Derived.Test.YthhgamnkidkanaaDoorBa
namespace Go.Proofs.YthhgamnkidkanaaDoor
open Go.ChangeShapes Go.WideShapes Go.ChangeAt Go.RowKit Go.Joins
set_option linter.unusedVariables false

/-- the two numbers of a checksum behind k bytes -/
def SumAt (s : ByteArray) (k x y : Nat) : Prop := x = M.sm (s.data.toList.take k) % 255 ∧ y = M.sw (s.data.toList.take k) % 255
theorem SumAt.next {s : ByteArray} {k x y : Nat} (h : SumAt s k x y) (hk : k < s.size) : SumAt s (k + 1) ((x + (s[k]).toNat) % 255) ((y + (x + (s[k]).toNat) % 255) % 255) := by
  obtain ⟨rfl, rfl⟩ := h
  rw [SumAt, take_snoc s k hk, M.sm_snoc, M.sw_snoc]
  omega
theorem SumAt.whole {s : ByteArray} {k x y : Nat} (h : SumAt s k x y) (hk : s.size ≤ k) : 256 * y + x = M.ck s.data.toList := by
  obtain ⟨rfl, rfl⟩ := h
  rw [List.take_of_length_le (by simpa using hk), M.ck]

theorem ck_end1 {x y K : Nat} (h : 256 * y + x = K) : (y : Int) * 256 + x = K := by omega
theorem ck_end2 {x y K : Nat} (h : 256 * y + x = K) : 256 * (y : Int) + x = K := by omega

theorem c_SumOf (s : ByteArray) (w : World) (hs : s.size ≤ maxLen) : Calls Tryd.prog 38 #[.string s] w (Same (.int .i64 (M.ck s.data.toList)) w) := by
  unfold maxLen at hs
  go_enter Tryd.func38, Tryd.ntmps38
  go_wp2_with fail
  go_loop [3, 4, 8] (fun a b i => ∃ k x y : Nat, k ≤ s.size ∧ i = .int .i64 k ∧ a = .int .i64 x ∧ b = .int .i64 y ∧ x < 255 ∧ y < 255 ∧ Hid (SumAt s k x y)) (fun _ _ i => s.size - (intOf i).toNat)
  case atStart => exact ⟨0, 0, 0, Nat.zero_le _, rfl, rfl, rfl, by omega, by omega, hid ⟨rfl, rfl⟩⟩
  case round =>
    obtain ⟨k, x, y, hk, rfl, rfl, rfl, hx, hy, HK⟩ := hrel
    by_cases hlt : k < s.size
    · have hb8 := byte_le s k hlt
      have HN := hid (HK.out.next hlt)
      go_wp2
      go_round
      case rel => exact ⟨k + 1, (x + (s[k]).toNat) % 255, (y + (x + (s[k]).toNat) % 255) % 255, by omega, by go_num, vint (by omega), vint (by omega), by omega, by omega, HN⟩
      case measure => simp [intOf]; omega
    · have HW := hid (HK.out.whole (by omega))
      go_wp2
      go_ret
      exact ⟨ret_int (ck_end1 HW.out), rfl⟩

theorem c_sSumOf (s : ByteArray) (w : World) (hs : s.size ≤ maxLen) : Calls Tryd.prog 36 #[.string s] w (Same (.int .i64 (M.ck s.data.toList)) w) := by
  unfold maxLen at hs
  go_enter Tryd.func36, Tryd.ntmps36
  go_wp2_with fail
  go_loop [3, 4, 5] (fun a b i => ∃ k x y : Nat, k ≤ s.size ∧ i = .int .i64 k ∧ a = .int .i64 x ∧ b = .int .i64 y ∧ x < 255 ∧ y < 255 ∧ Hid (SumAt s k x y)) (fun _ _ i => s.size - (intOf i).toNat)
  case atStart => exact ⟨0, 0, 0, Nat.zero_le _, rfl, rfl, rfl, by omega, by omega, hid ⟨rfl, rfl⟩⟩
  case round =>
    obtain ⟨k, x, y, hk, rfl, rfl, rfl, hx, hy, HK⟩ := hrel
    by_cases hlt : k < s.size
    · have hb8 := byte_le s k hlt
      have HN := hid (HK.out.next hlt)
      go_wp2
      go_round
      case rel => exact ⟨k + 1, (x + (s[k]).toNat) % 255, (y + (x + (s[k]).toNat) % 255) % 255, by omega, by go_num, vint (by omega), vint (by omega), by omega, by omega, HN⟩
      case measure => simp [intOf]; omega
    · have HW := hid (HK.out.whole (by omega))
      go_wp2
      go_ret
      exact ⟨ret_int (ck_end2 HW.out), rfl⟩
end Go.Proofs.YthhgamnkidkanaaDoor
