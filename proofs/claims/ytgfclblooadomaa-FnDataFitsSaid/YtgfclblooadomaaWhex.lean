/- The walks of the exact laws on hexadecimal digits. -/
import Derived.Test.YtgfclblooadomaaUnhex
namespace Go.Proofs.Ytgfclblooadomaa
open Go.ChangeShapes Go.WideShapes Go.ChangeAt Go.RowKit Go.Joins
set_option linter.unusedVariables false

theorem PH_none {s : ByteArray} {e : Ending} (h : M.parseHex s.data.toList = none) (hp : PH s e) : e = .returned (.tuple #[.string ByteArray.empty, .bool false]) := by
  rcases hp with ⟨_, rfl⟩ | ⟨d, hd, _⟩
  · rfl
  · rw [h] at hd; cases hd
theorem PH_some {s : ByteArray} {e : Ending} {d : List UInt8} (h : M.parseHex s.data.toList = some d) (hp : PH s e) : e = .returned (.tuple #[.string (str d), .bool true]) := by
  rcases hp with ⟨hd, _⟩ | ⟨d', hd, rfl⟩
  · rw [h] at hd; cases hd
  · rw [h] at hd; cases hd; rfl

theorem c_ParseHex_no (s : ByteArray) (w : World) (hs : s.size ≤ maxLen) (h : M.parseHex s.data.toList = none) : Calls Try.prog 50 #[.string s] w fun e w' => e = .returned (.tuple #[.string ByteArray.empty, .bool false]) ∧ Below w.heap.size w w' :=
  (c_ParseHex s w hs).mono fun _ _ ⟨hp, hb⟩ => ⟨PH_none h hp, hb⟩

theorem c_ParseHex_yes (s : ByteArray) (d : List UInt8) (w : World) (hs : s.size ≤ maxLen) (h : M.parseHex s.data.toList = some d) : Calls Try.prog 50 #[.string s] w fun e w' => e = .returned (.tuple #[.string (str d), .bool true]) ∧ Below w.heap.size w w' :=
  (c_ParseHex s w hs).mono fun _ _ ⟨hp, hb⟩ => ⟨PH_some h hp, hb⟩

theorem c_sParseHex_no (s : ByteArray) (w : World) (hs : s.size ≤ 1048576) (h : M.parseHex s.data.toList = none) : Calls Try.prog 52 #[.string s] w fun e w' => e = .returned (.tuple #[.string ByteArray.empty, .bool false]) ∧ Below w.heap.size w w' :=
  (c_sParseHex s w hs).mono fun _ _ ⟨hp, hb⟩ => ⟨PH_none h hp, hb⟩

theorem c_sParseHex_yes (s : ByteArray) (d : List UInt8) (w : World) (hs : s.size ≤ 1048576) (h : M.parseHex s.data.toList = some d) : Calls Try.prog 52 #[.string s] w fun e w' => e = .returned (.tuple #[.string (str d), .bool true]) ∧ Below w.heap.size w w' :=
  (c_sParseHex s w hs).mono fun _ _ ⟨hp, hb⟩ => ⟨PH_some h hp, hb⟩
end Go.Proofs.Ytgfclblooadomaa
