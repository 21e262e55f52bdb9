/- A world in which a box of three cells is known: what is kept behind an alloc, a call, a draw. -/
import Derived.Test.YtmfnfheahehpcaaGreatDoorBa
namespace Go.Proofs.YtmfnfheahehpcaaGreatDoor
open Go.ChangeShapes Go.WideShapes Go.ChangeAt Go.RowKit Go.Joins
set_option linter.unusedVariables false

theorem sk_of {w v : World} {N : Nat} {T : TypeId} {a b c : Value} (k : Blk v N T #[a, b, c]) (h : Below w.heap.size w v) : (Blk v N T #[a, b, c] ∧ v.cell? ⟨N, 0, none⟩ = some a ∧ v.cell? ⟨N, 1, none⟩ = some b ∧ v.cell? ⟨N, 2, none⟩ = some c ∧ Below w.heap.size w v) := ⟨k, k.cells3.1, k.cells3.2.1, k.cells3.2.2, h⟩
theorem sk_drew {w v : World} {N : Nat} {T : TypeId} {a b c : Value} (k : Blk v N T #[a, b, c]) (h : Below w.heap.size w v) : (Blk v.drew N T #[a, b, c] ∧ v.drew.cell? ⟨N, 0, none⟩ = some a ∧ v.drew.cell? ⟨N, 1, none⟩ = some b ∧ v.drew.cell? ⟨N, 2, none⟩ = some c ∧ Below w.heap.size w v.drew) := sk_of k.drew (bel_drew h)
theorem sk_alloc {w v : World} {N : Nat} {T : TypeId} {a b c : Value} (h : (Blk v N T #[a, b, c] ∧ v.cell? ⟨N, 0, none⟩ = some a ∧ v.cell? ⟨N, 1, none⟩ = some b ∧ v.cell? ⟨N, 2, none⟩ = some c ∧ Below w.heap.size w v)) (o : Obj) : (Blk (v.alloc o) N T #[a, b, c] ∧ (v.alloc o).cell? ⟨N, 0, none⟩ = some a ∧ (v.alloc o).cell? ⟨N, 1, none⟩ = some b ∧ (v.alloc o).cell? ⟨N, 2, none⟩ = some c ∧ Below w.heap.size w (v.alloc o)) := sk_of (h.1.alloc o) (bel_alloc h.2.2.2.2 o)
theorem sk_bel {w v u : World} {N : Nat} {T : TypeId} {a b c : Value} (hb : Below v.heap.size v u) (h : (Blk v N T #[a, b, c] ∧ v.cell? ⟨N, 0, none⟩ = some a ∧ v.cell? ⟨N, 1, none⟩ = some b ∧ v.cell? ⟨N, 2, none⟩ = some c ∧ Below w.heap.size w v)) : (Blk u N T #[a, b, c] ∧ u.cell? ⟨N, 0, none⟩ = some a ∧ u.cell? ⟨N, 1, none⟩ = some b ∧ u.cell? ⟨N, 2, none⟩ = some c ∧ Below w.heap.size w u) := sk_of (h.1.on hb) (bel_trans h.2.2.2.2 hb)
theorem sk_out {w v : World} {N : Nat} {T : TypeId} {a b c : Value} (h : (Blk v N T #[a, b, c] ∧ v.cell? ⟨N, 0, none⟩ = some a ∧ v.cell? ⟨N, 1, none⟩ = some b ∧ v.cell? ⟨N, 2, none⟩ = some c ∧ Below w.heap.size w v)) : Below w.heap.size w v := h.2.2.2.2
end Go.Proofs.YtmfnfheahehpcaaGreatDoor
