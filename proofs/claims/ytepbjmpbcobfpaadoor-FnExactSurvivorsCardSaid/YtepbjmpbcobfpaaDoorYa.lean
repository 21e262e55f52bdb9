/- ContainerSize and CountRaw in the model. -/
import Derived.Test.YtepbjmpbcobfpaaDoorYb
namespace Go.Proofs.YtepbjmpbcobfpaaDoor
open Go.ChangeShapes Go.WideShapes Go.ChangeAt Go.RowKit Go.Joins
set_option linter.unusedVariables false
set_option linter.unusedSimpArgs false

theorem zs_take_succ (l : List Bl) (k : Nat) (h : k < l.length) : zs (l.take (k + 1)) = zs (l.take k) + l[k].z.toNat := by
  rw [List.take_succ_eq_append_getElem h, zs_snoc]
/-- how many of some blocks are raw -/
def raws : List Bl → Nat
  | [] => 0
  | b :: l => (if b.raw then 1 else 0) + raws l
theorem raws_app (l r : List Bl) : raws (l ++ r) = raws l + raws r := by
  induction l with
  | nil => simp [raws]
  | cons b l ih => simp only [List.cons_append, raws, ih]; omega
theorem raws_take_succ (l : List Bl) (k : Nat) (h : k < l.length) : raws (l.take (k + 1)) = raws (l.take k) + (if l[k].raw then 1 else 0) := by
  rw [List.take_succ_eq_append_getElem h, raws_app]; simp [raws]
theorem raws_le (l : List Bl) : raws l ≤ l.length := by
  induction l with
  | nil => simp [raws]
  | cons b l ih => simp only [raws, List.length_cons]; split <;> omega

theorem Rdg.zOk {L : List UInt8} {bs : List Bl} (h : Rdg L bs) : ∀ b ∈ bs, 1 ≤ b.z ∧ b.z ≤ 64 := fun b hb => by
  obtain ⟨i, hi, rfl⟩ := List.getElem_of_mem hb
  exact (h.1 i bs[i] (List.getElem?_eq_getElem hi)).1.2.1
end Go.Proofs.YtepbjmpbcobfpaaDoor
