/- The listed variables, as a row's condition lays them: the layout of a header. No condition. -/
import Derived.Test.YtaiemogcboidhaaGreatDoorUb
import Derived.LaidLaws
import Derived.ChangeArms
import Derived.OpenShut
import Derived.OpenVars
import Derived.Stop.LaidErr
namespace Go.Proofs.YtaiemogcboidhaaGreatDoor
open Go.ChangeShapes Go.WideShapes Go.ChangeAt Go.RowKit Go.Joins
set_option linter.unusedVariables false

set_option maxRecDepth 100000 in
theorem lay_cells {H : Type} {enc : TypeId × Value → H} {w : World} {base : Nat} {sp : Nat → Bool} {held : Bool} {fuel : Nat} {cs : List Value} {a b c : Int} {p : List MemPlace}
    (h : DataW.trod enc Tryz.prog w base sp held fuel 48 cs = some (.agg [.lit (.int .i64 a), .lit (.int .i64 b), .lit (.int .i64 c)], p)) : cs = [.int .i64 a, .int .i64 b, .int .i64 c] := by
  obtain ⟨xs, n, rfl, hx, hl, hlen, hf⟩ := DataW.trod_struct Tryz.underlying48 h
  rw [show Tryz.prog.cellsOf 48 = 3 from by kernel_rfl] at hl
  have hc : Tryz.prog.cellsOf 3 = 1 := by kernel_rfl
  match cs, hl with
  | [c0, c1, c2], _ =>
    match xs, hlen with
    | [x0, x1, x2], _ =>
      have h0 := hf 0 _ rfl
      have h1 := hf 1 _ rfl
      have h2 := hf 2 _ rfl
      simp only [List.getElem_toArray, List.getElem_cons_zero, List.getElem_cons_succ, hc] at h0 h1 h2
      obtain ⟨n0, e0, f0, _⟩ := DataW.trod_int Tryz.underlying3 h0
      obtain ⟨n1, e1, f1, _⟩ := DataW.trod_int Tryz.underlying3 h1
      obtain ⟨n2, e2, f2, _⟩ := DataW.trod_int Tryz.underlying3 h2
      simp at e0 e1 e2
      subst e0 e1 e2 f0 f1 f2
      simp at hx
      obtain ⟨⟨rfl, rfl, rfl⟩, _⟩ := hx
      rfl

set_option maxRecDepth 100000 in
theorem lay_array {H : Type} {enc : TypeId × Value → H} {w : World} {base : Nat} {sp : Nat → Bool} {held : Bool} {fuel : Nat} {cs : List Value} {p : List MemPlace}
    (h : DataW.trod enc Tryz.prog w base sp held fuel 49 cs = some (.agg [.agg [.lit (.int .i64 1), .lit (.int .i64 181), .lit (.int .i64 181)], .agg [.lit (.int .i64 1), .lit (.int .i64 0), .lit (.int .i64 1)], .agg [.lit (.int .i64 2), .lit (.int .i64 0), .lit (.int .i64 39)], .agg [.lit (.int .i64 2), .lit (.int .i64 1), .lit (.int .i64 64)], .agg [.lit (.int .i64 2), .lit (.int .i64 1), .lit (.int .i64 64)]], p)) :
    cs = [.int .i64 1, .int .i64 181, .int .i64 181, .int .i64 1, .int .i64 0, .int .i64 1, .int .i64 2, .int .i64 0, .int .i64 39, .int .i64 2, .int .i64 1, .int .i64 64, .int .i64 2, .int .i64 1, .int .i64 64] := by
  obtain ⟨xs, n, rfl, hx, hl, hlen, hf⟩ := DataW.trod_array Tryz.underlying49 h
  rw [show Tryz.prog.cellsOf 49 = 15 from by kernel_rfl] at hl
  have hc : Tryz.prog.cellsOf 48 = 3 := by kernel_rfl
  match xs, hlen with
  | [x0, x1, x2, x3, x4], _ =>
    simp only [List.map_cons, List.map_nil, Prod.mk.injEq, DataW.agg.injEq, List.cons.injEq, and_true] at hx
    obtain ⟨⟨g0, g1, g2, g3, g4⟩, _⟩ := hx
    match cs, hl with
    | [c0, c1, c2, c3, c4, c5, c6, c7, c8, c9, c10, c11, c12, c13, c14], _ =>
      have h0 := hf 0 (by omega)
      have h1 := hf 1 (by omega)
      have h2 := hf 2 (by omega)
      have h3 := hf 3 (by omega)
      have h4 := hf 4 (by omega)
      simp only [hc] at h0 h1 h2 h3 h4
      have k0 := lay_cells (h0.trans (show _ = some (x0.1, x0.2) from rfl) |>.trans (by rw [← g0]))
      have k1 := lay_cells (h1.trans (show _ = some (x1.1, x1.2) from rfl) |>.trans (by rw [← g1]))
      have k2 := lay_cells (h2.trans (show _ = some (x2.1, x2.2) from rfl) |>.trans (by rw [← g2]))
      have k3 := lay_cells (h3.trans (show _ = some (x3.1, x3.2) from rfl) |>.trans (by rw [← g3]))
      have k4 := lay_cells (h4.trans (show _ = some (x4.1, x4.2) from rfl) |>.trans (by rw [← g4]))
      simp at k0 k1 k2 k3 k4
      simp_all

set_option maxRecDepth 100000 in
theorem lay_of {l : List (String × DataW Unit)} {nm : String} {W : World} (hg : Tryz.prog.globalNamed nm = some 1) (ht : (Tryz.prog.globals[ 1 ]?).map (·.type) = some 49)
    (h : laidMet Tryz.prog ((nm, .agg [.agg [.lit (.int .i64 1), .lit (.int .i64 181), .lit (.int .i64 181)], .agg [.lit (.int .i64 1), .lit (.int .i64 0), .lit (.int .i64 1)], .agg [.lit (.int .i64 2), .lit (.int .i64 0), .lit (.int .i64 39)], .agg [.lit (.int .i64 2), .lit (.int .i64 1), .lit (.int .i64 64)], .agg [.lit (.int .i64 2), .lit (.int .i64 1), .lit (.int .i64 64)]]) :: l) W) : Lay W := by
  obtain ⟨ps, ⟨g0, t0, cs, f0, p0, q0, hg0, ht0, hv, hd, _, e0⟩, _, hrows⟩ := h
  obtain rfl := Option.some.inj (hg.symm.trans hg0)
  obtain rfl := Option.some.inj (ht.symm.trans ht0)
  have hcs := lay_array hd
  obtain ⟨cs⟩ := cs
  simp only at hcs
  subst hcs e0
  obtain ⟨⟨c, t, hh⟩, _⟩ := hrows 1 0 (by simp [MemPlace.row])
  refine ⟨t, ?_⟩
  unfold World.var? at hv
  rw [hg] at hv
  simp only [Option.bind_some, hh] at hv
  obtain rfl := Option.some.inj hv
  exact hh

theorem vars_len {H : Type} {enc : TypeId × Value → H} {P : Program} {w : World} {sp : Nat → Bool} : ∀ {ns : List String} {gs : List (DataW H)} {ps : List MemPlace}, DataW.TrodVars enc P w sp ns gs ps → gs.length = ns.length
  | [], [], _, _ => rfl
  | [], _ :: _, _, h => h.elim
  | _ :: _, [], _, h => h.elim
  | _ :: ns, _ :: gs, _, ⟨_, _, _, _, _, _, _, _, _, _, hs, _⟩ => by rw [List.length_cons, List.length_cons, vars_len hs]
end Go.Proofs.YtaiemogcboidhaaGreatDoor
