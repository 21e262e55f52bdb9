/- Contracts of the model's own drawing of arguments: a stream, a place and a length. -/
import Derived.Test.YtaiemogcboidhaaGreatDoorDraw4
namespace Go.Proofs.YtaiemogcboidhaaGreatDoor
open Go.ChangeShapes Go.WideShapes Go.ChangeAt Go.RowKit Go.Joins
set_option linter.unusedVariables false

theorem results_four {fn : Func} {a b c d : Tmp} (h : fn.results = #[.tmp a, .tmp b, .tmp c, .tmp d]) (tmps : Array Value) (P : Program) (w : World) :
    (results fn tmps).run P w = .ok (.tuple #[tmps.getD a undef, tmps.getD b undef, tmps.getD c undef, tmps.getD d undef]) w := by
  simp [results, h]

theorem Rd.below {T : TypeId} {w w' : World} {L B q : Nat} (h : Rd T w L B q) (hb : Below w.heap.size w w') : Rd T w' L B q := by
  have hlt := h.lt
  have hg : (w.heap.size ≤ w'.heap.size) := hb.size
  obtain ⟨A, n, cap, p, hB, hc, hn, hL, h0, h1⟩ := h
  exact ⟨A, n, cap, p, hB.below hb hlt, hc.keep (fun k hk => hb.block k (by omega)), hn, hL, h0, h1⟩

def IntStrInt2 (w : World) (m : Nat) (e : Ending) (w' : World) : Prop := ∃ (x : Int) (s : ByteArray) (i n : Int), e = .returned (.tuple #[.int .i64 x, .string s, .int .i64 i, .int .i64 n]) ∧ (-1 ≤ x ∧ x ≤ 9223372036854775807) ∧ s.size ≤ m ∧ (-9223372036854775808 ≤ i ∧ i ≤ 9223372036854775807) ∧ (-9223372036854775808 ≤ n ∧ n ≤ 9223372036854775807) ∧ Below w.heap.size w w'
end Go.Proofs.YtaiemogcboidhaaGreatDoor
