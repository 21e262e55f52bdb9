/- Plain mathematics: what the laws say of what is known. No condition. -/
import Derived.Test.YtmlaaammfnboiaaGreatDoorBb
namespace Go.Proofs.YtmlaaammfnboiaaGreatDoor
set_option linter.unusedVariables false

theorem Kn.after_c (k : Kn) (code : Int) : (k.after code).c = k.c := rfl
theorem Kn.cleared_len {k : Kn} (h : k.Ok) : (k.cleared.ps.length : Int) = k.base := by
 have h0 := h.base0
 have h1 := h.base1
 simp [Kn.cleared]; omega
theorem Kn.after_len (k : Kn) (code : Int) : (k.after code).ps.length = k.ps.length + (if k.grows = true then 1 else 0) := by
 unfold Kn.after
 split <;> simp_all
end Go.Proofs.YtmlaaammfnboiaaGreatDoor
