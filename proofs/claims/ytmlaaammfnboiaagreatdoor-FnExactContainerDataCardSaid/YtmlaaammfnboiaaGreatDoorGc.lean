/- The contracts of GreedyCodes in the program. No condition but that the numbers are int's. The contracts of the model's l2Greedy and GreedyCodes. No condition but that the numbers are int's. The contracts of GreedyCodes in the model, and of Compress in both programs. No condition but that the numbers are int's. -/
import Derived.Test.YtmlaaammfnboiaaGreatDoorGa
import Derived.Test.YtmlaaammfnboiaaGreatDoorGm
import Derived.Test.YtmlaaammfnboiaaGreatDoorGn
import Derived.Test.YtmlaaammfnboiaaGreatDoorGb
import Derived.Test.YtmlaaammfnboiaaGreatDoorBi
import Derived.Test.YtmlaaammfnboiaaGreatDoorAa
import Derived.Test.YtmlaaammfnboiaaGreatDoorBh
import Derived.Test.YtmlaaammfnboiaaGreatDoorUd
namespace Go.Proofs.YtmlaaammfnboiaaGreatDoor
section
open Go.ChangeShapes Go.WideShapes Go.ChangeAt Go.RowKit Go.Joins
set_option linter.unusedVariables false

theorem Fd.low {L L' : Nat} {c : Int} {Q : List Pr} {m : Nat} {N : Nat → Nat} {Lo : Nat → Option Nat} {bm n : Nat} {w : World} (h : Fd L c Q m N Lo bm n w) (hL : L' ≤ L) : Fd L' c Q m N Lo bm n w :=
 ⟨h.node, fun r hr => Nat.le_trans hL (h.ge r hr), fun r g hr hl => by
  obtain ⟨h1, h2⟩ := h.arr r g hr hl
  exact ⟨Nat.le_trans hL h1, h2⟩, h.bare, h.one, h.mp, Nat.le_trans hL h.mge⟩
theorem FQ.low {L L' fb : Nat} {k : Kn} {A : Option Addr} {cap nb cap2 : Nat} {Q : List Pr} {N : Nat → Nat} {Lo : Nat → Option Nat} {bm n : Nat} {w : World} (h : FQ L fb k A cap nb cap2 Q N Lo bm n w) (hL : L' ≤ L) : FQ L' fb k A cap nb cap2 Q N Lo bm n w :=
 ⟨h.bx, own_mono h.row hL, own_mono h.nds hL, h.fd.low hL, Nat.le_trans hL h.lb⟩
def slen : Value → Nat
 | .string S => S.size
 | _ => 0
/-- a finder's longest word, wherever the finder is -/
theorem c_flongest (L fb : Nat) (k : Kn) (D : ByteArray) (w : World) (hk : k.Ok) (h : FAt L fb k w) (h0 : 0 < D.size) (hs : D.size ≤ 1048576) (hl : ((D[0]).toNat : Int) < k.c) :
  Calls Tryz.prog 92 #[.pointer (some ⟨fb, 0, none⟩), .string D] w fun e w' => e = .returned (.tuple #[.int .i64 (k.code1 D.data.toList), .int .i64 (k.lng D.data.toList : Nat)]) ∧ Below w.heap.size w w' := by
 obtain ⟨A, cap, nb, cap2, N, Lo, bm, n, hn, hF⟩ := h
 exact c_longest L fb k A cap nb cap2 N Lo bm n D w hk hF h0 hs hl
end

section
open Go.ChangeShapes Go.WideShapes Go.ChangeAt Go.RowKit Go.Joins
set_option linter.unusedVariables false

/-- the model's state: what is known, in a variable, and the codes -/
structure SG (L kb : Nat) (kk : Kn) (A5 : Option Addr) (cap5 : Nat) (cs : List Int) (A4 : Option Addr) (c4 : Nat) (w : World) : Prop where
 bx : Blk w kb 88 #[.int .i64 kk.o, .int .i64 kk.l, .int .i64 kk.m, .slice A5 kk.ps.length cap5, .int .i64 kk.base, .int .i64 kk.last]
 pr : w.ownsRow L 175 2 (.slice A5 kk.ps.length cap5) kk.ps.length (prs kk.ps)
 row : w.ownsRow L 3 1 (.slice A4 cs.length c4) cs.length (cs.map iv)
 lb : L ≤ kb
section
variable {L kb : Nat} {kk : Kn} {A5 : Option Addr} {cap5 : Nat} {cs : List Int} {A4 : Option Addr} {c4 : Nat} {w w' : World}

theorem SG.on (h : SG L kb kk A5 cap5 cs A4 c4 w) (hb : Below w.heap.size w w') : SG L kb kk A5 cap5 cs A4 c4 w' := ⟨h.bx.on hb, own_on h.pr hb, own_on h.row hb, h.lb⟩
theorem SG.code (h : SG L kb kk A5 cap5 cs A4 c4 w) (hg : w.grownBy w' (Value.slice A4 cs.length c4).ownBlock) {x : Int} {A9 : Option Addr} {c9 : Nat} (hown : w'.ownsRow L 3 1 (.slice A9 (cs.length + 1) c9) (cs.length + 1) ((cs ++ [x]).map iv)) : SG L kb kk A5 cap5 (cs ++ [x]) A9 c9 w' := by
 have e : (cs ++ [x]).length = cs.length + 1 := by simp
 exact ⟨h.bx.row7 h.row hg (by decide), h.pr.kept hg (own_apart h.pr h.row (by decide)), by rw [e]; exact hown, h.lb⟩
theorem SG.put (h : SG L kb kk A5 cap5 cs A4 c4 w) (k' : Kn) {A6 : Option Addr} {cap6 : Nat} (hp : w.ownsRow L 175 2 (.slice A6 k'.ps.length cap6) k'.ps.length (prs k'.ps)) : SG L kb k' A6 cap6 cs A4 c4 ((((((w.setCell ⟨kb, 0, none⟩ (.int .i64 k'.o)).setCell ⟨kb, 1, none⟩ (.int .i64 k'.l)).setCell ⟨kb, 2, none⟩ (.int .i64 k'.m)).setCell ⟨kb, 3, none⟩ (.slice A6 k'.ps.length cap6)).setCell ⟨kb, 4, none⟩ (.int .i64 k'.base)).setCell ⟨kb, 5, none⟩ (.int .i64 k'.last)) :=
 ⟨h.bx.put6 _ _ _ _ _ _, own_put6 hp h.bx (by decide) _ _ _ _ _ _, own_put6 h.row h.bx (by decide) _ _ _ _ _ _, h.lb⟩
end

end

section
open Go.ChangeShapes Go.WideShapes Go.ChangeAt Go.RowKit Go.Joins
set_option linter.unusedVariables false

def FitsOk (k : Kn) (D : ByteArray) : Prop := k.Ok ∧ dataFits k.o k.l k.m D = true
theorem FitsOk.lits {k : Kn} {D : ByteArray} (h : FitsOk k D) : Lits k.c D.data.toList ∧ D.size ≤ 2000 := fits_lits h.2
theorem FitsOk.len {k : Kn} {D : ByteArray} (h : FitsOk k D) : (k.greedy D.data.toList).length ≤ 3002 := by
 have h1 := h.1.greedy_len h.lits.1
 have h2 := h.lits.2
 rw [len_toList] at h1
 omega
end
end Go.Proofs.YtmlaaammfnboiaaGreatDoor
