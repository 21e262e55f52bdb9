/- Contracts of DataFits and BitsValid in both programs. No condition but that a string has a length. -/
import Derived.Test.YtgfclblooadomaaDoorCode
import Derived.Test.YtgfclblooadomaaDoorStr
namespace Go.Proofs.YtgfclblooadomaaDoor
open Go.ChangeShapes Go.WideShapes Go.ChangeAt Go.RowKit Go.Joins
set_option linter.unusedVariables false

def ltc (c : Int) (x : UInt8) : Bool := decide ((x.toNat : Int) < c)
def dataFits (o l m : Int) (s : ByteArray) : Bool := setOk o l m && decide (s.size ≤ 2000) && s.data.toList.all (ltc (pow2 l))

def isBit (x : UInt8) : Bool := x == 48 || x == 49
def bitsOk (s : ByteArray) : Bool := decide (s.size ≤ 32000) && s.data.toList.all isBit

theorem isBit_yes {x : UInt8} (h : ((x.toNat : Int) = 48 ∨ (x.toNat : Int) = 49)) : isBit x = true := by
  have : x = 48 ∨ x = 49 := by
    rcases h with h | h
    · left; apply UInt8.toNat_inj.1; simp; omega
    · right; apply UInt8.toNat_inj.1; simp; omega
  rcases this with rfl | rfl <;> rfl
theorem isBit_no {x : UInt8} (h : ¬((x.toNat : Int) = 48 ∨ (x.toNat : Int) = 49)) : isBit x = false := by
  have h1 : x ≠ 48 := fun e => h (by subst e; left; rfl)
  have h2 : x ≠ 49 := fun e => h (by subst e; right; rfl)
  simp [isBit, h1, h2]
end Go.Proofs.YtgfclblooadomaaDoor
