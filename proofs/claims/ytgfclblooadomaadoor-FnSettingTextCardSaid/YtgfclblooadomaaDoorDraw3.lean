/- Contracts of the model's own drawing of arguments: strings of bytes and of bits, orders. -/
import Derived.Test.YtgfclblooadomaaDoorDraw2
import Derived.Test.YtgfclblooadomaaDoorPack
namespace Go.Proofs.YtgfclblooadomaaDoor
open Go.ChangeShapes Go.WideShapes Go.ChangeAt Go.RowKit Go.Joins
set_option linter.unusedVariables false

theorem Rd.grown {T : TypeId} {w w' : World} {L B q : Nat} {row : Option Nat} (h : Rd T w L B q) (hg : w.grownBy w' row) (hr : ∀ g, row = some g → B < g) : Rd T w' L B q := by
  obtain ⟨A, n, cap, p, hb, hc, hn, hL, h0, h1⟩ := h
  have := hb.lt
  refine ⟨A, n, cap, p, hb.grown hg (fun e => by have := hr B e.symm; omega), hc.keep (fun k hk => hg.block k (by omega) (fun e => by have := hr k e.symm; omega)), hn, hL, h0, h1⟩
theorem Rd.more {T : TypeId} {w : World} {L B q q' : Nat} (h : Rd T w L B q) (hq : q ≤ q') : Rd T w L B q' := by
  obtain ⟨A, n, cap, p, hb, hc, hn, hL, h0, h1⟩ := h
  exact ⟨A, n, cap, p, hb, hc, hn, hL, h0, by omega⟩
theorem grown_none {a b : World} (row : Option Nat) (h : a.grownBy b none) : a.grownBy b row := ⟨h.os, h.tape, h.output, h.size, fun k hk _ => h.block k hk (by simp)⟩
theorem grown_own {a b c : World} {row r2 : Option Nat} (h : a.grownBy b row) (hg : b.grownBy c r2) (hr : ∀ g, r2 = some g → a.heap.size ≤ g) : a.grownBy c row :=
  ⟨hg.os.trans h.os, hg.tape.trans h.tape, hg.output.trans h.output, Nat.le_trans h.size hg.size, fun k hk hne =>
    (hg.block k (Nat.lt_of_lt_of_le hk h.size) (fun e => by have := hr k e.symm; omega)).trans (h.block k hk hne)⟩
theorem own_grown {w w' : World} {M B : Nat} {e : TypeId} {v : Value} {n : Nat} {xs : List Value} (h : w.ownsRow M e 1 v n xs) (hg : w.grownBy w' (some B)) (hB : B < M) : w'.ownsRow M e 1 v n xs :=
  h.kept hg (by
    cases hv : v.ownBlock with
    | none => exact .inl rfl
    | some g => right; have := (h.lt g hv).1; simp; omega)

/-- what a draw of a string of at most m bytes answers -/
def Letters (T : TypeId) (w : World) (L B q m : Nat) (e : Ending) (w' : World) : Prop := ∃ l : List UInt8, e = .returned (.string (str l)) ∧ l.length ≤ m ∧ Rd T w' L B (q + m + 1) ∧ w.grownBy w' (some B)

theorem Tryd.info_u8d : (Tryd.prog.info? 5).map (fun i => (i.zero, i.size, i.bytes)) = some (some (.int .u8 0), 1, 1) := by kernel_rfl

/-- what a draw of an order answers: an int -/
def AnInt (T : TypeId) (w : World) (L B q m : Nat) (e : Ending) (w' : World) : Prop := ∃ x : Int, e = .returned (.int .i64 x) ∧ (-1 ≤ x ∧ x ≤ 9223372036854775807) ∧ Rd T w' L B (q + m) ∧ w.grownBy w' (some B)

/-- what DrawUnpackBits, DrawPackBits, DrawBitsCode .. answer: an order and a string -/
def IntStr (w : World) (m : Nat) (e : Ending) (w' : World) : Prop := ∃ (x : Int) (s : ByteArray), e = .returned (.tuple #[.int .i64 x, .string s]) ∧ (-1 ≤ x ∧ x ≤ 9223372036854775807) ∧ s.size ≤ m ∧ Below w.heap.size w w'
end Go.Proofs.YtgfclblooadomaaDoor
