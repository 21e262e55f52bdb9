/- The walk of FnExactKnownValid: its Go text returns true, and writes nothing that was there. -/
import Derived.Test.YtoiifopjipfjhaaOp
import Derived.Test.YtoiifopjipfjhaaKw
namespace Go.Proofs.Ytoiifopjipfjhaa
open Go.ChangeShapes Go.WideShapes Go.ChangeAt Go.RowKit Go.Joins
set_option linter.unusedVariables false

theorem Kn.In.wf {k : Kn} (h : k.In) (hn : k.ps.length ≤ 1048576) : k.Wf := ⟨h.pairs, h.base, h.last, hn⟩
/-- an own slice of pairs, read -/
theorem own_at {w : World} {B : Nat} {e : TypeId} {g n cap : Nat} {ps : List Pr} (h : w.ownsRow B e 2 (.slice (some ⟨g, 0, none⟩) n cap) n (prs ps)) : PsAt w w.heap.size (some ⟨g, 0, none⟩) cap ps := by
  obtain ⟨A, c, e1, hp, e2, _⟩ := own_ps h
  simp at e1
  obtain ⟨rfl, _, rfl⟩ := e1
  exact hp

theorem held12 {v0 v : World} {a0 a1 a2 a3 a4 a5 b0 b1 b2 b3 b4 b5 : Addr} {x0 x1 x2 x3 x4 x5 y0 y1 y2 y3 y4 y5 : Value} (h : v.cell? a0 = some x0 ∧ v.cell? a1 = some x1 ∧ v.cell? a2 = some x2 ∧ v.cell? a3 = some x3 ∧ v.cell? a4 = some x4 ∧ v.cell? a5 = some x5) (k : v.cell? b0 = some y0 ∧ v.cell? b1 = some y1 ∧ v.cell? b2 = some y2 ∧ v.cell? b3 = some y3 ∧ v.cell? b4 = some y4 ∧ v.cell? b5 = some y5) (hb : Below v0.heap.size v0 v) :
    v.cell? a0 = some x0 ∧ v.cell? a1 = some x1 ∧ v.cell? a2 = some x2 ∧ v.cell? a3 = some x3 ∧ v.cell? a4 = some x4 ∧ v.cell? a5 = some x5 ∧ v.cell? b0 = some y0 ∧ v.cell? b1 = some y1 ∧ v.cell? b2 = some y2 ∧ v.cell? b3 = some y3 ∧ v.cell? b4 = some y4 ∧ v.cell? b5 = some y5 ∧ Below v0.heap.size v0 v := by
  obtain ⟨h0, h1, h2, h3, h4, h5⟩ := h
  obtain ⟨k0, k1, k2, k3, k4, k5⟩ := k
  exact ⟨h0, h1, h2, h3, h4, h5, k0, k1, k2, k3, k4, k5, hb⟩
end Go.Proofs.Ytoiifopjipfjhaa
