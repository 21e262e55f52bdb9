/- Contracts of CodesValid, CodesWidths, CodesData in both programs. No condition but that the numbers are int's. Contracts of CodesValid, CodesWidths, CodesData in the specification. No condition but that the numbers are int's. Plain mathematics: the bits of codes, code by code. No condition. -/
import Derived.Test.YtmlaaammfnboiaaGreatDoorBi
import Derived.Test.YtmlaaammfnboiaaGreatDoorBd
import Derived.Test.YtmlaaammfnboiaaGreatDoorBh
import Derived.Test.YtmlaaammfnboiaaGreatDoorBb
import Derived.Test.YtmlaaammfnboiaaGreatDoorBj
namespace Go.Proofs.YtmlaaammfnboiaaGreatDoor
section
open Go.ChangeShapes Go.WideShapes Go.ChangeAt Go.RowKit Go.Joins
set_option linter.unusedVariables false
set_option linter.unusedSectionVars false

/-- codes can follow each other from what is known on -/
def CodesOk (k : Kn) (codes : List Int) : Prop := k.Ok ∧ codes.length ≤ 3100 ∧ k.good 0 codes = true
section
variable (k : Kn) (A : Option Addr) (cap L : Nat) (w : World) (h : PsAt w L A cap k.ps) (hL : L ≤ w.heap.size) (hw : k.Wf) (A2 : Option Addr) (cap2 L2 : Nat) (codes : List Int) (hc : NumsAt w L2 A2 cap2 codes) (hL2 : L2 ≤ w.heap.size) (hn : codes.length ≤ 1048576)

include h hL hw hc hL2 hn

end
end

section
open Go.ChangeShapes Go.WideShapes Go.ChangeAt Go.RowKit Go.Joins
set_option linter.unusedVariables false
set_option linter.unusedSectionVars false

def WYes (k : Kn) (codes : List Int) (w : World) (e : Ending) (w' : World) : Prop :=
 ∃ (k' : Kn) (A : Option Addr) (cap : Nat) (A2 : Option Addr) (cap2 : Nat), e = .returned (.tuple #[.agg #[.int .i64 k'.o, .int .i64 k'.l, .int .i64 k'.m, .slice A k'.ps.length cap, .int .i64 k'.base, .int .i64 k'.last], .slice A2 (k.widths codes).length cap2, .string (str (k.dat codes)), .bool true]) ∧ w'.ownsRow w.heap.size 3 1 (.slice A2 (k.widths codes).length cap2) (k.widths codes).length ((k.widths codes).map iv) ∧ Below w.heap.size w w'
section
variable (k : Kn) (A : Option Addr) (cap L : Nat) (w : World) (h : PsAt w L A cap k.ps) (hL : L ≤ w.heap.size) (A2 : Option Addr) (cap2 L2 : Nat) (codes : List Int) (hc : NumsAt w L2 A2 cap2 codes) (hL2 : L2 ≤ w.heap.size)

include h hL hc hL2

theorem c_l2Walk_yes (hk : CodesOk k codes) : Calls Tryz.prog 122 #[.agg #[.int .i64 k.o, .int .i64 k.l, .int .i64 k.m, .slice A k.ps.length cap, .int .i64 k.base, .int .i64 k.last], .slice A2 codes.length cap2] w (WYes k codes w) := by
 refine (c_l2Walk k A cap L w h hL hk.1 A2 cap2 L2 codes hc hL2 (by have := hk.2.1; omega)).mono ?_
 rintro e w' ⟨k', A', cap', v, s, b, rfl, hgood, _, ⟨A3, c3, n3, rfl⟩, hb2⟩
 obtain ⟨rfl, rfl, ho⟩ := hgood hk.2.2
 have h2 := own_ilen ho
 rw [Kn.widths_length] at h2
 obtain ⟨A4, c4, e4⟩ := own_sl ho
 simp at e4
 obtain ⟨rfl, rfl, rfl⟩ := e4
 exact ⟨k', A', cap', A3, c3, by rw [Kn.widths_length], by rw [Kn.widths_length]; exact ho, hb2⟩

end
end

section
theorem chr_bit (b : Bool) : isBit (M.chr b) = true := by cases b <;> rfl
end
end Go.Proofs.YtmlaaammfnboiaaGreatDoor
