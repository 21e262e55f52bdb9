/- Contracts of readTrail, UnpackCodes and Decompress in the program. No condition but that the numbers are int's. -/
import Derived.Test.YtfklkepodpcdgaaRe
import Derived.Test.YtfklkepodpcdgaaBd
namespace Go.Proofs.Ytfklkepodpcdgaa
open Go.ChangeShapes Go.WideShapes Go.ChangeAt Go.RowKit Go.Joins
set_option linter.unusedVariables false
set_option linter.unusedSectionVars false

/-- a stream's codes, how it ends, and how many bytes are used -/
def Kn.bitsOf (k : Kn) (s : ByteArray) : List Bool := bitsL (str (unpackL k.o s))
def Kn.rdAll (k : Kn) (s : ByteArray) : List Int × Int × Nat := Kn.rd (k.bitsOf s) (8 * s.size + 1) k 0 0 0
def Kn.uc (k : Kn) (s : ByteArray) : List Int := (k.rdAll s).1
def Kn.ue (k : Kn) (s : ByteArray) : Int := (k.rdAll s).2.1
def Kn.uu (k : Kn) (s : ByteArray) : Nat := ((k.rdAll s).2.2 + 7) / 8
def UnpOk (k : Kn) (s : ByteArray) : Prop := k.Ok ∧ s.size ≤ 4000

theorem unpackL_size (o : Int) (s : ByteArray) : (str (unpackL o s)).size = 8 * s.size := by rw [str_size]; simp [unpackL, M.asc, M.unpack_length]

theorem Kn.bitsOf_len (k : Kn) (s : ByteArray) : (k.bitsOf s).length = 8 * s.size := by rw [Kn.bitsOf, bitsL_len, unpackL_size]

theorem unpackL_bit (o : Int) (s : ByteArray) : (str (unpackL o s)).data.toList.all isBit = true := by rw [str_list]; exact M.isBits_asc _
def ReadYes (k : Kn) (s : ByteArray) (w : World) (e : Ending) (w' : World) : Prop :=
  ∃ g T, e = .returned (.tuple #[.pointer (some ⟨g, 0, none⟩), .int .i64 (k.ue s), .int .i64 (k.uu s : Nat)]) ∧ TrailAt w' w.heap.size g T ∧ T.cs = k.uc s ∧ T.ds = k.dat (k.uc s) ∧ Below w.heap.size w w'
def ReadNo (w : World) (e : Ending) (w' : World) : Prop :=
  ∃ g, e = .returned (.tuple #[.pointer (some ⟨g, 0, none⟩), .int .i64 4, .int .i64 0]) ∧ Blk w' g 221 #[.int .i64 0, .int .i64 0, .int .i64 0, .slice none 0 0, .int .i64 0, .int .i64 0, .int .i64 0, .int .i64 0, .slice none 0 0, .slice none 0 0, .slice none 0 0] ∧ Below w.heap.size w w'

theorem Kn.ue_bd (k : Kn) (s : ByteArray) : 0 ≤ k.ue s ∧ k.ue s ≤ 3 := by
  have : ∀ (B : List Bool) (f : Nat) (k : Kn) (a n sz : Nat), 0 ≤ (Kn.rd B f k a n sz).2.1 ∧ (Kn.rd B f k a n sz).2.1 ≤ 3 := by
    intro B f
    induction f with
    | zero => intro k a n sz; simp [Kn.rd]
    | succ f ih =>
      intro k a n sz
      rw [Kn.rd]
      generalize k.codeAt B a = code
      split
      · split
        · simp
        · split
          · split
            · simp
            · split
              · simp
              · exact ih _ _ _ _
          · simp
      · simp
  exact this _ _ _ _ _ _

theorem Kn.uu_bd {k : Kn} (h : k.Ok) (s : ByteArray) : k.uu s ≤ s.size := by
  have h1 := h.rd_used (k.bitsOf s) (8 * s.size + 1) 0 0 0 (Nat.zero_le _)
  rw [Kn.bitsOf_len] at h1
  unfold Kn.uu Kn.rdAll; omega

theorem Kn.uc_len {k : Kn} (h : k.Ok) (s : ByteArray) : (k.uc s).length ≤ 3100 := by
  have := (h.rd_good (k.bitsOf s) (8 * s.size + 1) 0 0 0 (by omega) (by omega)).2
  unfold Kn.uc Kn.rdAll; omega

theorem Kn.uc_good {k : Kn} (h : k.Ok) (s : ByteArray) : k.good 0 (k.uc s) = true :=
  (h.rd_good (k.bitsOf s) (8 * s.size + 1) 0 0 0 (by omega) (by omega)).1
section
variable (k : Kn) (A : Option Addr) (cap L : Nat) (w : World) (h : PsAt w L A cap k.ps) (hL : L ≤ w.heap.size) (hw : k.Wf) (s : ByteArray)

include h hL hw

end
end Go.Proofs.Ytfklkepodpcdgaa
