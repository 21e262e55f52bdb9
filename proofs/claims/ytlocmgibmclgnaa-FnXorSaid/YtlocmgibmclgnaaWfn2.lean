/- The walks of the laws on UnpackBits and TurnBytes. -/
import Derived.Test.YtlocmgibmclgnaaDraw3
import Derived.Test.YtlocmgibmclgnaaTurn
namespace Go.Proofs.Ytlocmgibmclgnaa
open Go.ChangeShapes Go.WideShapes Go.ChangeAt Go.RowKit Go.Joins
set_option linter.unusedVariables false

theorem big_code {A' : Option Addr} {n cap L : Nat} {w : World} (hc : CodeAt w L A' n cap) : (n : Int) ≤ 9223372036854775807 := by
  have h1 := hc.1
  have h2 := hc.2.1
  unfold maxLen at h2; omega

theorem packOk_unpack {o : Int} {s : ByteArray} (h1 : orderOk o = true) (h2 : s.size ≤ 4000) : packOk o (str (unpackL o s)) = true := by
  have h3 : bitsOk (str (unpackL o s)) = true := by
    rw [bitsOk, str_size, unpackL_len, str_list, unpackL, all_asc]
    simp; omega
  simp [packOk, h1, h3]
theorem packS_unpack (o : Int) (s : ByteArray) : packS o (str (unpackL o s)) = s := by
  rw [packS, unpackL, bitsL_asc, M.pack_unpack, str_self]

theorem turnS_turn (s : ByteArray) : turnS (turnS s) = s := by rw [turnS, turnS, str_list, M.turn_turn, str_self]
theorem turnS_size (s : ByteArray) : (turnS s).size = s.size := by rw [turnS, str_size]; simp [M.turn]
theorem unpack_turnS (o : Int) (s : ByteArray) (ho : o = 0 ∨ o = 1) : unpackL (1 - o) (turnS s) = unpackL o s := by
  rw [unpackL, unpackL, turnS, str_list]
  rcases ho with rfl | rfl
  · exact congrArg M.asc (M.unpack_turn false _)
  · exact congrArg M.asc (M.unpack_turn true _)
end Go.Proofs.Ytlocmgibmclgnaa
