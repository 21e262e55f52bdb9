/- Contracts of BitsCode, ReverseBits and the model's CodeBits, and of what they call. -/
import Derived.Test.YtgfclblooadomaaDoorCb
import Derived.Test.YtgfclblooadomaaDoorBn
namespace Go.Proofs.YtgfclblooadomaaDoor
open Go.ChangeShapes Go.WideShapes Go.ChangeAt Go.RowKit Go.Joins
set_option linter.unusedVariables false

def bitsCodeOk (o : Int) (s : ByteArray) : Bool := orderOk o && inB s.size 1 10 && bitsOk s
def bitsCodeV (o : Int) (s : ByteArray) : Nat := M.num (M.dir (o == 1) (bitsL s))
theorem par_bits {s : ByteArray} (h : bitsOk s = true) : s.data.toList.map par = bitsL s := by
  unfold bitsL
  apply List.map_congr_left
  intro c hc
  simp only [bitsOk, Bool.and_eq_true] at h
  have h1 := List.all_eq_true.1 h.2 _ hc
  simp only [isBit, Bool.or_eq_true, beq_iff_eq] at h1
  rcases h1 with rfl | rfl <;> rfl
theorem bitsOk_all {s : ByteArray} (h : bitsOk s = true) : s.data.toList.all isBit = true := by
  simp only [bitsOk, Bool.and_eq_true] at h; exact h.2
theorem numK_bits {o : Int} {s : ByteArray} {n : Nat} (h : bitsOk s = true) (hn : n = s.size) : M.numK (o == 1) n (s.data.toList.map par) = bitsCodeV o s := by
  rw [par_bits h, bitsCodeV, ← M.numK_full, bitsL_len, hn]
theorem not_zero {o : Int} (h : orderOk o = true) : (!(o == 0)) = (o == 1) := by
  rcases orderOk_iff.1 h with rfl | rfl <;> rfl

theorem bitsCodeOk_iff {o : Int} {s : ByteArray} : bitsCodeOk o s = true ↔ orderOk o = true ∧ inB s.size 1 10 = true ∧ bitsOk s = true := by simp [bitsCodeOk, and_assoc]

def revV (n width : Int) : Nat := M.num (M.dir true (M.bitsOf width.toNat n.toNat))
theorem all_le (k : Nat) (K : Int) (hK : K < k) {Q : Int → Prop} (h : ∀ m : Fin k, Q ((m.val : Nat) : Int)) : ∀ n : Int, 0 ≤ n → n ≤ K → Q n := by
  intro n h0 h1
  have := h ⟨n.toNat, by omega⟩
  rwa [show ((n.toNat : Nat) : Int) = n from by omega] at this
end Go.Proofs.YtgfclblooadomaaDoor
