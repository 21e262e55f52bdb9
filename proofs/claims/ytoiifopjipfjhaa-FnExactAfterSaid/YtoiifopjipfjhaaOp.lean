/- The law's argument 'what is known', opened: its numbers, and where its pairs lie. No condition. -/
import Derived.Test.YtoiifopjipfjhaaChecked
import Derived.Test.YtoiifopjipfjhaaPm
import Derived.Test.YtoiifopjipfjhaaKi
import Derived.Deep.SlicePairs
namespace Go.Proofs.Ytoiifopjipfjhaa
open Go.ChangeShapes Go.WideShapes Go.ChangeAt Go.RowKit Go.Joins Go.Deep
set_option linter.unusedVariables false

theorem array_six {α : Type} {cs : Array α} (h : cs.size = 6) : ∃ a b c d e f, cs = #[a, b, c, d, e, f] := by
  obtain ⟨l⟩ := cs
  simp at h
  match l, h with
  | [a, b, c, d, e, f], _ => exact ⟨a, b, c, d, e, f, rfl⟩

theorem agg_six {P : Program} {w : World} {r : Reach} {b0 : Nat} {t : TypeId} {fs : Array Field} {v : Value} (hs : P.underlying t = some (.struct fs)) (hC : P.cellsOf t = 6) (hv : Value.okWide P w r b0 t v) : ∃ a b c d e f, v = .agg #[a, b, c, d, e, f] := by
  obtain ⟨cs, rfl, hsz⟩ := okWide_struct hs hv
  obtain ⟨c0, c1, c2, c3, c4, c5, rfl⟩ := array_six (hsz.trans hC)
  exact ⟨_, _, _, _, _, _, rfl⟩

set_option maxRecDepth 100000 in
theorem open_pairs {H : Type} {enc : TypeId × Value → H} {w : World} {spare : Nat → Bool} {held : Bool} {fuel : Nat} {c : Value} {x : DataW H × List MemPlace} (h : DataW.trod enc Try.prog w 0 spare held fuel 71 [c] = some x) :
    ∃ (A : Option Addr) (cap : Nat) (ps : List Pr), c = .slice A ps.length cap ∧ PsAt w w.heap.size A cap ps ∧ PsB ps := by
  rcases open_slice_pairs Try.underlying71 Try.underlying159 (by kernel_rfl) rfl rfl (by kernel_rfl) (by kernel_rfl) h with ⟨hc, _⟩ | ⟨a, len, cap, m, n, V0, V1, D0, D1, P0, P1, hc, _, hl, hcm, hm, _, hx⟩
  · simp at hc
    exact ⟨none, 0, [], hc, PsAt.nil _ _, fun i p hp => by simp at hp⟩
  · simp at hc
    have hlm : len ≤ m := by rw [hm]; split <;> omega
    have each : ∀ i, i < len → ∃ q : Int × Int, w.cell? (a.add (i * 2)) = some (.int .i64 q.1) ∧ w.cell? (a.add (i * 2 + 1)) = some (.int .i64 q.2) ∧ (-9223372036854775808 ≤ q.1 ∧ q.1 ≤ 9223372036854775807) ∧ (-9223372036854775808 ≤ q.2 ∧ q.2 ≤ 9223372036854775807) := by
      intro i hi
      obtain ⟨h0, h1, t0, t1⟩ := hx i (by omega)
      obtain ⟨y0, e0, _, w0⟩ := DataW.trod_int Try.underlying3 t0
      obtain ⟨y1, e1, _, w1⟩ := DataW.trod_int Try.underlying3 t1
      simp only [List.cons.injEq, and_true] at e0 e1
      rw [e0] at h0
      rw [e1] at h1
      exact ⟨(y0, y1), h0, h1, wf_bounds w0, wf_bounds w1⟩
    obtain ⟨q, hq⟩ := choose_lt each
    have hlen : ((List.range len).map q).length = len := by simp
    have hget : ∀ i p, ((List.range len).map q)[i]? = some p → i < len ∧ p = q i := by
      intro i p hp
      have := get_lt hp
      rw [hlen] at this
      simp [this] at hp
      exact ⟨this, hp.symm⟩
    refine ⟨some a, cap, (List.range len).map q, by rw [hlen]; exact hc, ⟨by rw [hlen]; exact hl, hcm, by simp, fun hn => ?_⟩, fun i p hp => ?_⟩
    · rw [hlen] at hn
      obtain ⟨b, off, spot⟩ := a
      have hc0 := (hq 0 hn).1
      have hspot : spot = none := by simpa [Addr.add] using World.cell?_spot hc0
      subst hspot
      refine ⟨b, off, rfl, ?_, fun i p hp => ?_⟩
      · have := World.block_lt_of_cell? _ _ hc0
        simpa [Addr.add] using this
      · obtain ⟨hi, rfl⟩ := hget i p hp
        have h1 := hq i hi
        have ea : ∀ j, ((⟨b, off, none⟩ : Addr).add j) = ⟨b, off + j, none⟩ := by intro j; unfold Addr.add; split <;> simp_all
        rw [ea, ea] at h1
        exact ⟨h1.1, h1.2.1⟩
    · obtain ⟨hi, rfl⟩ := hget i p hp
      have h1 := hq i hi
      exact ⟨h1.2.2.1, h1.2.2.2⟩

/-- the law's argument, a value of its own type -/
structure Kn.In (k : Kn) : Prop where
  pairs : PsB k.ps
  base : -9223372036854775808 ≤ k.base ∧ k.base ≤ 9223372036854775807
  last : -9223372036854775808 ≤ k.last ∧ k.last ≤ 9223372036854775807

set_option maxRecDepth 100000 in
theorem open_known {H : Type} {enc : TypeId × Value → H} {w : World} {spare : Nat → Bool} {held : Bool} {r : Reach} {b0 : Nat} {v : Value} {d : DataW H} {p : List MemPlace} (hv : Value.okWide Try.prog w r b0 73 v) (h : DataW.Trod enc Try.prog w 0 spare held 73 v d p) :
    ∃ (k : Kn) (A : Option Addr) (cap : Nat), v = .agg #[.int .i64 k.o, .int .i64 k.l, .int .i64 k.m, .slice A k.ps.length cap, .int .i64 k.base, .int .i64 k.last] ∧ PsAt w w.heap.size A cap k.ps ∧ k.In := by
  have hC : Try.prog.cellsOf 73 = 6 := by kernel_rfl
  have hU := Try.underlying73
  have h6 := agg_six hU hC hv
  obtain ⟨c0, c1, c2, c3, c4, c5, rfl⟩ := h6
  obtain ⟨fuel, hf⟩ := h
  obtain ⟨xs, n, _, _, _, hxl, hx⟩ := DataW.trod_struct Try.underlying73 hf
  have cS : Try.prog.cellsOf 70 = 3 := by kernel_rfl
  have cP : Try.prog.cellsOf 71 = 1 := by kernel_rfl
  have cI : Try.prog.cellsOf 3 = 1 := by kernel_rfl
  have hlen : xs.length = 4 := hxl
  have g0 : DataW.trod enc Try.prog w 0 spare held n 70 (List.take (Try.prog.cellsOf 70) (List.drop 0 [c0, c1, c2, c3, c4, c5])) = xs[0]? := hx 0 _ rfl
  rw [cS, List.getElem?_eq_getElem (by omega)] at g0
  have g0 : DataW.trod enc Try.prog w 0 spare held n 70 [c0, c1, c2] = some xs[0] := g0
  have g1 : DataW.trod enc Try.prog w 0 spare held n 71 (List.take (Try.prog.cellsOf 71) (List.drop 3 [c0, c1, c2, c3, c4, c5])) = xs[1]? := hx 1 _ rfl
  rw [cP, List.getElem?_eq_getElem (by omega)] at g1
  have g1 : DataW.trod enc Try.prog w 0 spare held n 71 [c3] = some xs[1] := g1
  have g2 : DataW.trod enc Try.prog w 0 spare held n 3 (List.take (Try.prog.cellsOf 3) (List.drop 4 [c0, c1, c2, c3, c4, c5])) = xs[2]? := hx 2 _ rfl
  rw [cI, List.getElem?_eq_getElem (by omega)] at g2
  have g2 : DataW.trod enc Try.prog w 0 spare held n 3 [c4] = some xs[2] := g2
  have g3 : DataW.trod enc Try.prog w 0 spare held n 3 (List.take (Try.prog.cellsOf 3) (List.drop 5 [c0, c1, c2, c3, c4, c5])) = xs[3]? := hx 3 _ rfl
  rw [cI, List.getElem?_eq_getElem (by omega)] at g3
  have g3 : DataW.trod enc Try.prog w 0 spare held n 3 [c5] = some xs[3] := g3
  obtain ⟨ys, m, _, _, _, hyl, hy⟩ := DataW.trod_struct Try.underlying70 g0
  have hlen2 : ys.length = 3 := hyl
  have k0 : DataW.trod enc Try.prog w 0 spare held m 3 (List.take (Try.prog.cellsOf 3) (List.drop 0 [c0, c1, c2])) = ys[0]? := hy 0 _ rfl
  rw [cI, List.getElem?_eq_getElem (by omega)] at k0
  have k0 : DataW.trod enc Try.prog w 0 spare held m 3 [c0] = some ys[0] := k0
  have k1 : DataW.trod enc Try.prog w 0 spare held m 3 (List.take (Try.prog.cellsOf 3) (List.drop 1 [c0, c1, c2])) = ys[1]? := hy 1 _ rfl
  rw [cI, List.getElem?_eq_getElem (by omega)] at k1
  have k1 : DataW.trod enc Try.prog w 0 spare held m 3 [c1] = some ys[1] := k1
  have k2 : DataW.trod enc Try.prog w 0 spare held m 3 (List.take (Try.prog.cellsOf 3) (List.drop 2 [c0, c1, c2])) = ys[2]? := hy 2 _ rfl
  rw [cI, List.getElem?_eq_getElem (by omega)] at k2
  have k2 : DataW.trod enc Try.prog w 0 spare held m 3 [c2] = some ys[2] := k2
  obtain ⟨o, e0, _, w0⟩ := DataW.trod_int Try.underlying3 k0
  obtain ⟨l, e1, _, w1⟩ := DataW.trod_int Try.underlying3 k1
  obtain ⟨mm, e2, _, w2⟩ := DataW.trod_int Try.underlying3 k2
  obtain ⟨A, cap, ps, e3, hps, hpb⟩ := open_pairs g1
  obtain ⟨bb, e4, _, w4⟩ := DataW.trod_int Try.underlying3 g2
  obtain ⟨tt, e5, _, w5⟩ := DataW.trod_int Try.underlying3 g3
  simp only [List.cons.injEq, and_true] at e0 e1 e2 e4 e5
  subst e0 e1 e2 e3 e4 e5
  exact ⟨⟨o, l, mm, ps, bb, tt⟩, A, cap, rfl, hps, ⟨hpb, wf_bounds w4, wf_bounds w5⟩⟩
end Go.Proofs.Ytoiifopjipfjhaa
