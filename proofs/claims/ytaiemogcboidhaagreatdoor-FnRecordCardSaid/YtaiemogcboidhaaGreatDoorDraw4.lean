/- Contracts of the model's own drawing of arguments: a stream and a place in it; bits and an order. -/
import Derived.Test.YtaiemogcboidhaaGreatDoorDraw3
namespace Go.Proofs.YtaiemogcboidhaaGreatDoor
open Go.ChangeShapes Go.WideShapes Go.ChangeAt Go.RowKit Go.Joins
set_option linter.unusedVariables false

def IntStrInt (w : World) (m : Nat) (e : Ending) (w' : World) : Prop := ∃ (x : Int) (s : ByteArray) (i : Int), e = .returned (.tuple #[.int .i64 x, .string s, .int .i64 i]) ∧ (-1 ≤ x ∧ x ≤ 9223372036854775807) ∧ s.size ≤ m ∧ (-9223372036854775808 ≤ i ∧ i ≤ 9223372036854775807) ∧ Below w.heap.size w w'
end Go.Proofs.YtaiemogcboidhaaGreatDoor
