/- ContainerSize in the program, and its law's walk. The layout of the header and the errors are as the program's text lays them. -/
import Derived.Test.YtepbjmpbcobfpaaDoorRc
namespace Go.Proofs.YtepbjmpbcobfpaaDoor
open Go.ChangeShapes Go.WideShapes Go.ChangeAt Go.RowKit Go.Joins
set_option linter.unusedVariables false
set_option linter.unusedSimpArgs false

theorem ecV_no (a0 a1 a2 : Addr) {c : Nat} (hc : ¬ c = 0) : ∃ x, ecV a0 a1 a2 c = errV x := by
  unfold ecV
  rw [if_neg hc]
  split
  · exact ⟨_, rfl⟩
  · split
    · exact ⟨_, rfl⟩
    · exact ⟨_, rfl⟩

/-- readContainer where the bytes are a container -/
theorem c_rc_yes {S : ByteArray} {L : List UInt8} {bs : List Bl} {w : World} {a0 a1 a2 : Addr} (hS : S.size ≤ 1000000000000) (hL : L = S.data.toList) (hst : Stop L bs 0) (hG : Glob w a0 a1 a2) : Calls Tryd.prog 26 #[.string S] w fun e w' => ∃ A1 q1 A2 q2, e = .returned (.tuple #[.agg #[.slice A1 bs.length q1, .slice A2 (pls bs).length q2, .int .i64 ((txt bs).length : Nat), .int .i64 (zs bs : Nat)], .nilIface]) ∧ w'.ownsRow w.heap.size 35 4 (.slice A1 bs.length q1) bs.length (bvs bs) ∧ w'.ownsRow w.heap.size 52 2 (.slice A2 (pls bs).length q2) bs.length (prs (pls bs)) ∧ Below w.heap.size w w' := by
  refine (c_readContainer S L bs 0 w a0 a1 a2 hS hL hst hG).mono ?_
  rintro e w1 ⟨u1, u2, rfl, hr, hb⟩
  obtain ⟨h1, h2⟩ := hr rfl
  obtain ⟨A1, q1, rfl, -, -⟩ := own_bls h1
  obtain ⟨A2, q2, rfl, -, -, -⟩ := own_ps h2
  exact ⟨A1, q1, A2, q2, rfl, h1, h2, hb⟩

/-- readContainer where they are none -/
theorem c_rc_no {S : ByteArray} {L : List UInt8} {bs : List Bl} {c : Nat} {w : World} {a0 a1 a2 : Addr} (hS : S.size ≤ 1000000000000) (hL : L = S.data.toList) (hst : Stop L bs c) (hc : ¬ c = 0) (hG : Glob w a0 a1 a2) : Calls Tryd.prog 26 #[.string S] w fun e w' => ∃ x, e = .returned (.tuple #[.agg #[.slice none 0 0, .slice none 0 0, .int .i64 0, .int .i64 0], .iface 84 (.pointer (some x))]) ∧ Below w.heap.size w w' := by
  refine (c_readContainer S L bs c w a0 a1 a2 hS hL hst hG).mono ?_
  rintro e w1 ⟨u1, u2, rfl, -, hb⟩
  obtain ⟨x, hx⟩ := ecV_no a0 a1 a2 hc
  rw [hx]
  simp only [if_neg hc]
  exact ⟨x, rfl, hb⟩
end Go.Proofs.YtepbjmpbcobfpaaDoor
