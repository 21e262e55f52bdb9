/- The laws' arguments that begin with what is known (a reader, a writer), opened. No condition. -/
import Derived.Test.YtfjealhigckegaaDoorBe
namespace Go.Proofs.YtfjealhigckegaaDoor
open Go.ChangeShapes Go.WideShapes Go.ChangeAt Go.RowKit Go.Joins Go.Deep
set_option linter.unusedVariables false

set_option maxRecDepth 100000 in
theorem known_cells {H : Type} {enc : TypeId × Value → H} {w : World} {spare : Nat → Bool} {held : Bool} {fuel : Nat} {c0 c1 c2 c3 c4 c5 : Value} {x : DataW H × List MemPlace} (hf : DataW.trod enc Tryd.prog w 0 spare held fuel 26 [c0, c1, c2, c3, c4, c5] = some x) :
    ∃ (k : Kn) (A : Option Addr) (cap : Nat), (c0 = .int .i64 k.o ∧ c1 = .int .i64 k.l ∧ c2 = .int .i64 k.m ∧ c3 = .slice A k.ps.length cap ∧ c4 = .int .i64 k.base ∧ c5 = .int .i64 k.last) ∧ PsAt w w.heap.size A cap k.ps ∧ k.In := by
  obtain ⟨xs, n, _, _, _, hxl, hx⟩ := DataW.trod_struct Tryd.underlying26 hf
  have cS : Tryd.prog.cellsOf 23 = 3 := by kernel_rfl
  have cP : Tryd.prog.cellsOf 24 = 1 := by kernel_rfl
  have cI : Tryd.prog.cellsOf 3 = 1 := by kernel_rfl
  have hlen : xs.length = 4 := hxl
  have g0 : DataW.trod enc Tryd.prog w 0 spare held n 23 (List.take (Tryd.prog.cellsOf 23) (List.drop 0 [c0, c1, c2, c3, c4, c5])) = xs[0]? := hx 0 _ rfl
  rw [cS, List.getElem?_eq_getElem (by omega)] at g0
  have g0 : DataW.trod enc Tryd.prog w 0 spare held n 23 [c0, c1, c2] = some xs[0] := g0
  have g1 : DataW.trod enc Tryd.prog w 0 spare held n 24 (List.take (Tryd.prog.cellsOf 24) (List.drop 3 [c0, c1, c2, c3, c4, c5])) = xs[1]? := hx 1 _ rfl
  rw [cP, List.getElem?_eq_getElem (by omega)] at g1
  have g1 : DataW.trod enc Tryd.prog w 0 spare held n 24 [c3] = some xs[1] := g1
  have g2 : DataW.trod enc Tryd.prog w 0 spare held n 3 (List.take (Tryd.prog.cellsOf 3) (List.drop 4 [c0, c1, c2, c3, c4, c5])) = xs[2]? := hx 2 _ rfl
  rw [cI, List.getElem?_eq_getElem (by omega)] at g2
  have g2 : DataW.trod enc Tryd.prog w 0 spare held n 3 [c4] = some xs[2] := g2
  have g3 : DataW.trod enc Tryd.prog w 0 spare held n 3 (List.take (Tryd.prog.cellsOf 3) (List.drop 5 [c0, c1, c2, c3, c4, c5])) = xs[3]? := hx 3 _ rfl
  rw [cI, List.getElem?_eq_getElem (by omega)] at g3
  have g3 : DataW.trod enc Tryd.prog w 0 spare held n 3 [c5] = some xs[3] := g3
  obtain ⟨ys, m, _, _, _, hyl, hy⟩ := DataW.trod_struct Tryd.underlying23 g0
  have hlen2 : ys.length = 3 := hyl
  have k0 : DataW.trod enc Tryd.prog w 0 spare held m 3 (List.take (Tryd.prog.cellsOf 3) (List.drop 0 [c0, c1, c2])) = ys[0]? := hy 0 _ rfl
  rw [cI, List.getElem?_eq_getElem (by omega)] at k0
  have k0 : DataW.trod enc Tryd.prog w 0 spare held m 3 [c0] = some ys[0] := k0
  have k1 : DataW.trod enc Tryd.prog w 0 spare held m 3 (List.take (Tryd.prog.cellsOf 3) (List.drop 1 [c0, c1, c2])) = ys[1]? := hy 1 _ rfl
  rw [cI, List.getElem?_eq_getElem (by omega)] at k1
  have k1 : DataW.trod enc Tryd.prog w 0 spare held m 3 [c1] = some ys[1] := k1
  have k2 : DataW.trod enc Tryd.prog w 0 spare held m 3 (List.take (Tryd.prog.cellsOf 3) (List.drop 2 [c0, c1, c2])) = ys[2]? := hy 2 _ rfl
  rw [cI, List.getElem?_eq_getElem (by omega)] at k2
  have k2 : DataW.trod enc Tryd.prog w 0 spare held m 3 [c2] = some ys[2] := k2
  obtain ⟨o, e0, _, w0⟩ := DataW.trod_int Tryd.underlying3 k0
  obtain ⟨l, e1, _, w1⟩ := DataW.trod_int Tryd.underlying3 k1
  obtain ⟨mm, e2, _, w2⟩ := DataW.trod_int Tryd.underlying3 k2
  obtain ⟨A, cap, ps, e3, hps, hpb⟩ := open_pairs g1
  obtain ⟨bb, e4, _, w4⟩ := DataW.trod_int Tryd.underlying3 g2
  obtain ⟨tt, e5, _, w5⟩ := DataW.trod_int Tryd.underlying3 g3
  simp only [List.cons.injEq, and_true] at e0 e1 e2 e4 e5
  subst e0 e1 e2 e3 e4 e5
  exact ⟨⟨o, l, mm, ps, bb, tt⟩, A, cap, ⟨rfl, rfl, rfl, rfl, rfl, rfl⟩, hps, ⟨hpb, wf_bounds w4, wf_bounds w5⟩⟩

theorem array_10 {α : Type} {cs : Array α} (h : cs.size = 10) : ∃ a0 a1 a2 a3 a4 a5 a6 a7 a8 a9, cs = #[a0, a1, a2, a3, a4, a5, a6, a7, a8, a9] := by
  obtain ⟨l⟩ := cs
  simp at h
  match l, h with
  | [a0, a1, a2, a3, a4, a5, a6, a7, a8, a9], _ => exact ⟨a0, a1, a2, a3, a4, a5, a6, a7, a8, a9, rfl⟩

set_option maxRecDepth 100000 in
theorem open_reader {H : Type} {enc : TypeId × Value → H} {w : World} {spare : Nat → Bool} {held : Bool} {r : Reach} {b0 : Nat} {v : Value} {d : DataW H} {p : List MemPlace} (hv : Value.okWide Tryd.prog w r b0 37 v) (h : DataW.Trod enc Tryd.prog w 0 spare held 37 v d p) :
    ∃ (k : Kn) (A : Option Addr) (cap : Nat) (B : ByteArray) (s : Int) (c : Int) (e : Int), v = .agg #[.int .i64 k.o, .int .i64 k.l, .int .i64 k.m, .slice A k.ps.length cap, .int .i64 k.base, .int .i64 k.last, .string B, .int .i64 s, .int .i64 c, .int .i64 e] ∧ PsAt w w.heap.size A cap k.ps ∧ k.In ∧ B.size ≤ maxLen ∧ (-9223372036854775808 ≤ s ∧ s ≤ 9223372036854775807) ∧ (-9223372036854775808 ≤ c ∧ c ≤ 9223372036854775807) ∧ (-9223372036854775808 ≤ e ∧ e ≤ 9223372036854775807) := by
  have hC : Tryd.prog.cellsOf 37 = 10 := by kernel_rfl
  obtain ⟨cs, rfl, hsz⟩ := okWide_struct Tryd.underlying37 hv
  obtain ⟨c0, c1, c2, c3, c4, c5, c6, c7, c8, c9, rfl⟩ := array_10 (hsz.trans hC)
  obtain ⟨fuel, hf⟩ := h
  obtain ⟨xs, n, _, _, _, hxl, hx⟩ := DataW.trod_struct Tryd.underlying37 hf
  have cK : Tryd.prog.cellsOf 26 = 6 := by kernel_rfl
  have cI : Tryd.prog.cellsOf 3 = 1 := by kernel_rfl
  have cS : Tryd.prog.cellsOf 9 = 1 := by kernel_rfl
  have cB : Tryd.prog.cellsOf 4 = 1 := by kernel_rfl
  have hlen : xs.length = 5 := hxl
  have g0 : DataW.trod enc Tryd.prog w 0 spare held n 26 (List.take (Tryd.prog.cellsOf 26) (List.drop 0 [c0, c1, c2, c3, c4, c5, c6, c7, c8, c9])) = xs[0]? := hx 0 _ rfl
  rw [cK, List.getElem?_eq_getElem (by omega)] at g0
  have g0 : DataW.trod enc Tryd.prog w 0 spare held n 26 [c0, c1, c2, c3, c4, c5] = some xs[0] := g0
  obtain ⟨k, A, cap, ⟨rfl, rfl, rfl, rfl, rfl, rfl⟩, hps, hin⟩ := known_cells g0
  have g1 : DataW.trod enc Tryd.prog w 0 spare held n 9 (List.take (Tryd.prog.cellsOf 9) (List.drop 6 [.int .i64 k.o, .int .i64 k.l, .int .i64 k.m, .slice A k.ps.length cap, .int .i64 k.base, .int .i64 k.last, c6, c7, c8, c9])) = xs[1]? := hx 1 _ rfl
  rw [cS, List.getElem?_eq_getElem (by omega)] at g1
  have g1 : DataW.trod enc Tryd.prog w 0 spare held n 9 [c6] = some xs[1] := g1
  obtain ⟨B, e1, _, w1⟩ := DataW.trod_string Tryd.underlying9 g1
  simp only [List.cons.injEq, and_true] at e1
  subst e1
  have g2 : DataW.trod enc Tryd.prog w 0 spare held n 3 (List.take (Tryd.prog.cellsOf 3) (List.drop 7 [.int .i64 k.o, .int .i64 k.l, .int .i64 k.m, .slice A k.ps.length cap, .int .i64 k.base, .int .i64 k.last, .string B, c7, c8, c9])) = xs[2]? := hx 2 _ rfl
  rw [cI, List.getElem?_eq_getElem (by omega)] at g2
  have g2 : DataW.trod enc Tryd.prog w 0 spare held n 3 [c7] = some xs[2] := g2
  obtain ⟨s, e2, _, w2⟩ := DataW.trod_int Tryd.underlying3 g2
  simp only [List.cons.injEq, and_true] at e2
  subst e2
  have g3 : DataW.trod enc Tryd.prog w 0 spare held n 3 (List.take (Tryd.prog.cellsOf 3) (List.drop 8 [.int .i64 k.o, .int .i64 k.l, .int .i64 k.m, .slice A k.ps.length cap, .int .i64 k.base, .int .i64 k.last, .string B, .int .i64 s, c8, c9])) = xs[3]? := hx 3 _ rfl
  rw [cI, List.getElem?_eq_getElem (by omega)] at g3
  have g3 : DataW.trod enc Tryd.prog w 0 spare held n 3 [c8] = some xs[3] := g3
  obtain ⟨c, e3, _, w3⟩ := DataW.trod_int Tryd.underlying3 g3
  simp only [List.cons.injEq, and_true] at e3
  subst e3
  have g4 : DataW.trod enc Tryd.prog w 0 spare held n 3 (List.take (Tryd.prog.cellsOf 3) (List.drop 9 [.int .i64 k.o, .int .i64 k.l, .int .i64 k.m, .slice A k.ps.length cap, .int .i64 k.base, .int .i64 k.last, .string B, .int .i64 s, .int .i64 c, c9])) = xs[4]? := hx 4 _ rfl
  rw [cI, List.getElem?_eq_getElem (by omega)] at g4
  have g4 : DataW.trod enc Tryd.prog w 0 spare held n 3 [c9] = some xs[4] := g4
  obtain ⟨e, e4, _, w4⟩ := DataW.trod_int Tryd.underlying3 g4
  simp only [List.cons.injEq, and_true] at e4
  subst e4
  exact ⟨k, A, cap, B, s, c, e, rfl, hps, hin, w1, wf_bounds w2, wf_bounds w3, wf_bounds w4⟩

theorem array_9 {α : Type} {cs : Array α} (h : cs.size = 9) : ∃ a0 a1 a2 a3 a4 a5 a6 a7 a8, cs = #[a0, a1, a2, a3, a4, a5, a6, a7, a8] := by
  obtain ⟨l⟩ := cs
  simp at h
  match l, h with
  | [a0, a1, a2, a3, a4, a5, a6, a7, a8], _ => exact ⟨a0, a1, a2, a3, a4, a5, a6, a7, a8, rfl⟩
end Go.Proofs.YtfjealhigckegaaDoor
