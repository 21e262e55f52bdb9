/- An operation handed to a law, opened: its six cells. -/
import Derived.Test.YtmbjljhocgojbaaDoorBa
import Derived.Test.YtmbjljhocgojbaaDoorBb
namespace Go.Proofs.YtmbjljhocgojbaaDoor
open Go.ChangeShapes Go.WideShapes Go.ChangeAt Go.RowKit Go.Joins
set_option linter.unusedVariables false

theorem agg_sixK {P : Program} {w : World} {r : Reach} {b0 : Nat} {t : TypeId} {fs : Array Field} {v : Value} (hs : P.underlying t = some (.struct fs)) (hC : P.cellsOf t = 6) (hv : Value.okWide P w r b0 t v) : ∃ c0 c1 c2 c3 c4 c5, v = .agg #[c0, c1, c2, c3, c4, c5] := by
  obtain ⟨cs, rfl, hsz⟩ := okWide_struct hs hv
  obtain ⟨l⟩ := cs
  have hl : l.length = 6 := hsz.trans hC
  match l, hl with
  | [c0, c1, c2, c3, c4, c5], _ => exact ⟨c0, c1, c2, c3, c4, c5, rfl⟩

set_option maxRecDepth 100000 in
theorem open_op {H : Type} {enc : TypeId × Value → H} {w : World} {spare : Nat → Bool} {held : Bool} {r : Reach} {b0 : Nat} {v : Value} {d : DataW H} {p : List MemPlace} (hv : Value.okWide Tryd.prog w r b0 23 v) (h : DataW.Trod enc Tryd.prog w 0 spare held 23 v d p) :
    ∃ (k : Int) (nm : ByteArray) (f t z : Int) (dd : ByteArray), v = .agg #[.int .i64 k, .string nm, .int .i64 f, .int .i64 t, .int .i64 z, .string dd] ∧ (-9223372036854775808 ≤ k ∧ k ≤ 9223372036854775807) ∧ nm.size ≤ maxLen ∧ (-9223372036854775808 ≤ f ∧ f ≤ 9223372036854775807) ∧ (-9223372036854775808 ≤ t ∧ t ≤ 9223372036854775807) ∧ (-9223372036854775808 ≤ z ∧ z ≤ 9223372036854775807) ∧ dd.size ≤ maxLen := by
  have hC : Tryd.prog.cellsOf 23 = 6 := by kernel_rfl
  obtain ⟨c0, c1, c2, c3, c4, c5, rfl⟩ := agg_sixK Tryd.underlying23 hC hv
  obtain ⟨fuel, hf⟩ := h
  obtain ⟨xs, n, _, _, _, hxl, hx⟩ := DataW.trod_struct Tryd.underlying23 hf
  have cI : Tryd.prog.cellsOf 3 = 1 := by kernel_rfl
  have cS : Tryd.prog.cellsOf 9 = 1 := by kernel_rfl
  have hlen : xs.length = 6 := hxl
  have g0 : DataW.trod enc Tryd.prog w 0 spare held n 3 (List.take (Tryd.prog.cellsOf 3) (List.drop 0 [c0, c1, c2, c3, c4, c5])) = xs[0]? := hx 0 _ rfl
  rw [cI, List.getElem?_eq_getElem (by omega)] at g0
  have g0 : DataW.trod enc Tryd.prog w 0 spare held n 3 [c0] = some xs[0] := g0
  obtain ⟨a0, e0, _, w0⟩ := DataW.trod_int Tryd.underlying3 g0
  have g1 : DataW.trod enc Tryd.prog w 0 spare held n 9 (List.take (Tryd.prog.cellsOf 9) (List.drop 1 [c0, c1, c2, c3, c4, c5])) = xs[1]? := hx 1 _ rfl
  rw [cS, List.getElem?_eq_getElem (by omega)] at g1
  have g1 : DataW.trod enc Tryd.prog w 0 spare held n 9 [c1] = some xs[1] := g1
  obtain ⟨a1, e1, _, w1⟩ := DataW.trod_string Tryd.underlying9 g1
  have g2 : DataW.trod enc Tryd.prog w 0 spare held n 3 (List.take (Tryd.prog.cellsOf 3) (List.drop 2 [c0, c1, c2, c3, c4, c5])) = xs[2]? := hx 2 _ rfl
  rw [cI, List.getElem?_eq_getElem (by omega)] at g2
  have g2 : DataW.trod enc Tryd.prog w 0 spare held n 3 [c2] = some xs[2] := g2
  obtain ⟨a2, e2, _, w2⟩ := DataW.trod_int Tryd.underlying3 g2
  have g3 : DataW.trod enc Tryd.prog w 0 spare held n 3 (List.take (Tryd.prog.cellsOf 3) (List.drop 3 [c0, c1, c2, c3, c4, c5])) = xs[3]? := hx 3 _ rfl
  rw [cI, List.getElem?_eq_getElem (by omega)] at g3
  have g3 : DataW.trod enc Tryd.prog w 0 spare held n 3 [c3] = some xs[3] := g3
  obtain ⟨a3, e3, _, w3⟩ := DataW.trod_int Tryd.underlying3 g3
  have g4 : DataW.trod enc Tryd.prog w 0 spare held n 3 (List.take (Tryd.prog.cellsOf 3) (List.drop 4 [c0, c1, c2, c3, c4, c5])) = xs[4]? := hx 4 _ rfl
  rw [cI, List.getElem?_eq_getElem (by omega)] at g4
  have g4 : DataW.trod enc Tryd.prog w 0 spare held n 3 [c4] = some xs[4] := g4
  obtain ⟨a4, e4, _, w4⟩ := DataW.trod_int Tryd.underlying3 g4
  have g5 : DataW.trod enc Tryd.prog w 0 spare held n 9 (List.take (Tryd.prog.cellsOf 9) (List.drop 5 [c0, c1, c2, c3, c4, c5])) = xs[5]? := hx 5 _ rfl
  rw [cS, List.getElem?_eq_getElem (by omega)] at g5
  have g5 : DataW.trod enc Tryd.prog w 0 spare held n 9 [c5] = some xs[5] := g5
  obtain ⟨a5, e5, _, w5⟩ := DataW.trod_string Tryd.underlying9 g5
  simp only [List.cons.injEq, and_true] at e0 e1 e2 e3 e4 e5
  subst e0 e1 e2 e3 e4 e5
  exact ⟨a0, a1, a2, a3, a4, a5, rfl, wf_bounds w0, w1, wf_bounds w2, wf_bounds w3, wf_bounds w4, w5⟩
end Go.Proofs.YtmbjljhocgojbaaDoor
