/- What the finder holds in memory; the contract of longer. No condition but that what is known is valid. -/
import Derived.Test.YtblmifbpoopbdaaMp
import Derived.Test.YtblmifbpoopbdaaBb
import Derived.Test.YtblmifbpoopbdaaBf
namespace Go.Proofs.Ytblmifbpoopbdaa
open Go.ChangeShapes Go.WideShapes Go.ChangeAt Go.RowKit Go.Joins
set_option linter.unusedVariables false

/-- nodes, tables and the map of the pairs Q, of which the first m are kept -/
structure Fd (L : Nat) (c : Int) (Q : List Pr) (m : Nat) (N : Nat → Nat) (Lo : Nat → Option Nat) (bm n : Nat) (wr : World) : Prop where
  node : ∀ r, Lst c Q r → Blk wr (N r) 189 #[.int .i64 r, ptr (Lo r)]
  ge : ∀ r, Lst c Q r → L ≤ N r
  arr : ∀ r g, Lst c Q r → Lo r = some g → L ≤ g ∧ ∃ cs : Array Value, Blk wr g 228 cs ∧ cs.size = 256 ∧ ∀ x : Nat, x ≤ 255 → cs[x]? = some (ptr (ndAt c (Q.take m) N (wd c Q r ++ [byt x])))
  bare : ∀ r, Lst c Q r → Lo r = none → ∀ x : Int, 0 ≤ x ∧ x ≤ 255 → fnd c (Q.take m) (wd c Q r ++ [byt x]) = none
  one : ∀ r r' g, Lst c Q r → Lst c Q r' → Lo r = some g → Lo r' = some g → r = r'
  mp : MapIs wr bm n (inMap c Q (Q.take m) N)
  mge : L ≤ bm
theorem MapIs.drew {w : World} {bm n : Nat} {M : Nat → Int → Option Nat} (h : MapIs w bm n M) : MapIs w.drew bm n M := h
theorem ptr_none : ptr none = .pointer none := rfl
theorem ptr_some (b : Nat) : ptr (some b) = .pointer (some ⟨b, 0, none⟩) := rfl
/-- a kept word is a word -/
theorem ndAt_kept {c : Int} {Q : List Pr} {m s : Nat} {N : Nat → Nat} {w : List UInt8} (h : fnd c (Q.take m) w = some s) : ndAt c Q N w = some (N s) ∧ ndAt c (Q.take m) N w = some (N s) := by
  have := fnd_more (Q.drop m) h
  rw [List.take_append_drop] at this
  exact ⟨by rw [ndAt, this]; rfl, by rw [ndAt, h]; rfl⟩

set_option maxHeartbeats 1000000 in
theorem c_longer (L fb bm n m : Nat) (c : Int) (Q : List Pr) (N : Nat → Nat) (Lo : Nat → Option Nat) (w : World) (h : Fd L c Q m N Lo bm n w) (hf : w.cell? ⟨fb, 7, none⟩ = some (.map (some bm))) (r : Nat) (hr : Lst c Q r) (hrl : r ≤ 100000) (x : Nat) (hx : x ≤ 255) :
    Calls Try.prog 182 #[.pointer (some ⟨fb, 0, none⟩), .pointer (some ⟨N r, 0, none⟩), .int .i64 (x : Int)] w fun e w' => e = .returned (ptr (ndAt c Q N (wd c Q r ++ [byt x]))) ∧ Below w.heap.size w w' := by
  have hb := h.node r hr
  obtain ⟨p0, p1⟩ := hb.cells2
  have hlk := h.mp.drew.look hrl (show 0 ≤ (x : Int) ∧ (x : Int) ≤ 255 by omega)
  have hin : fnd c (Q.take m) (wd c Q r ++ [byt x]) = none → inMap c Q (Q.take m) N r x = ndAt c Q N (wd c Q r ++ [byt x]) := fun h0 => by rw [inMap, if_pos ⟨hr, h0⟩]
  obtain ⟨b, hbN⟩ : ∃ b, b = N r := ⟨_, rfl⟩
  rw [← hbN] at p0 p1 ⊢
  have hin := hid hin
  cases hl : Lo r with
  | none =>
    have hb0 := h.bare r hr hl x (by omega)
    rw [hin.out hb0] at hlk
    rw [hl, ptr_none] at p1
    obtain ⟨R, hR⟩ : ∃ R, R = ptr (ndAt c Q N (wd c Q r ++ [byt x])) := ⟨_, rfl⟩
    rw [← hR] at hlk ⊢
    clear hR h hb hb0 hbN hl hin hr
    go_enter Try.func182, Try.ntmps182
    go_wp2_with fail
    go_region
    all_goals
      go_wp2
      go_ret
      exact ⟨rfl, by (repeat (first | with_reducible (first | assumption | exact Below.refl _ _ | refine bel_alloc ?_ _ | refine bel_drew ?_ | refine bel_drewN ?_ _ | refine bel_set ?_ (by first | omega | (simp; done) | (simp; omega)) _ | refine bel_trans ?_ (by assumption)) | assumption | refine bel_trans ?_ (by assumption)))⟩
  | some g =>
    obtain ⟨_, cs, hg, hgs, hgc⟩ := h.arr r g hr hl
    have hcell := hg.cell x
    rw [hgc x hx] at hcell
    rw [hl, ptr_some] at p1
    cases hk : fnd c (Q.take m) (wd c Q r ++ [byt x]) with
    | some s =>
      obtain ⟨e1, e2⟩ := ndAt_kept (N := N) hk
      rw [e2, ptr_some] at hcell
      rw [e1, ptr_some]
      clear hlk hgc h hb hg hbN hl hin hr hk e1 e2
      go_enter Try.func182, Try.ntmps182
      go_wp2
      go_ret
      exact ⟨rfl, by (repeat (first | with_reducible (first | assumption | exact Below.refl _ _ | refine bel_alloc ?_ _ | refine bel_drew ?_ | refine bel_drewN ?_ _ | refine bel_set ?_ (by first | omega | (simp; done) | (simp; omega)) _ | refine bel_trans ?_ (by assumption)) | assumption | refine bel_trans ?_ (by assumption)))⟩
    | none =>
      rw [ndAt, hk] at hcell
      rw [hin.out hk] at hlk
      have hcell2 : w.cell? ⟨g, x, none⟩ = some (.pointer none) := hcell
      obtain ⟨R, hR⟩ : ∃ R, R = ptr (ndAt c Q N (wd c Q r ++ [byt x])) := ⟨_, rfl⟩
      rw [← hR] at hlk ⊢
      clear hR hgc h hb hg hbN hl hin hr hk hcell
      go_enter Try.func182, Try.ntmps182
      go_wp2_with fail
      go_region
      all_goals
        go_wp2
        go_ret
        exact ⟨rfl, by (repeat (first | with_reducible (first | assumption | exact Below.refl _ _ | refine bel_alloc ?_ _ | refine bel_drew ?_ | refine bel_drewN ?_ _ | refine bel_set ?_ (by first | omega | (simp; done) | (simp; omega)) _ | refine bel_trans ?_ (by assumption)) | assumption | refine bel_trans ?_ (by assumption)))⟩
end Go.Proofs.Ytblmifbpoopbdaa
