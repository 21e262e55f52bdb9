/- The walk of the exact law on ParseParity. -/
import Derived.Test.YtcliagnongbkmaaDoorMc
import Derived.BigQuiet
namespace Go.Proofs.YtcliagnongbkmaaDoor
open Go.ChangeShapes Go.WideShapes Go.ChangeAt Go.RowKit Go.Joins
set_option linter.unusedVariables false
set_option linter.unusedSimpArgs false

theorem own_grownT {w w' : World} {B : Nat} {e : TypeId} {size : Nat} {v : Value} {n : Nat} {xs : List Value} {row : Option Nat} (h : w.ownsRow B e size v n xs) (hg : w.grownBy w' row) (hne : ∀ g, v.ownBlock = some g → row = some g → False) : w'.ownsRow B e size v n xs :=
  h.kept hg (by
    cases hv : v.ownBlock with
    | none => exact .inl rfl
    | some g => right; intro e; exact hne g hv e.symm)

set_option maxHeartbeats 4000000 in
set_option maxRecDepth 100000 in
theorem walk_FnExactParseParity (t : ByteArray) (w : World) (h_t : t.size ≤ maxLen) (mm : Int) (hm : w.cell? ⟨2, 0, none⟩ = some (.int .i64 mm)) :
    Calls Tryd.prog 5 #[.string t] w fun e w' => e = .returned (.bool true) ∧ Below w.heap.size w w' := by
  by_cases big_S : 1048576 < t.size
  · unfold maxLen at *
    go_enter Tryd.func5, Tryd.ntmps5
    go_wp2_with fail
    go_ret
    exact ⟨rfl, by (repeat (first | with_reducible (first | assumption | exact Below.refl _ _ | refine bel_alloc ?_ _ | refine bel_drew ?_ | refine bel_drewN ?_ _ | refine bel_set ?_ (by first | omega | (simp; done) | (simp; omega)) _ | refine bel_trans ?_ (by assumption)) | assumption | refine bel_trans ?_ (by assumption)))⟩
  obtain ⟨R, q, hR, hR40⟩ := ppy_ex t
  have hn : R.length ≤ 1048576 := by omega
  have HS := hid (fun (v : World) => (c_sParseParity t v (by omega)).mono fun e w' h => show ∃ A cap, e = .returned (.tuple #[.slice A R.length cap, .bool q]) ∧ w'.ownsRow v.heap.size 9 1 (.slice A R.length cap) R.length (R.map sv) ∧ Below v.heap.size v w' from by
    obtain ⟨ps, b, A0, cap, hp, e1, h1, h2⟩ := h
    obtain ⟨rfl, rfl⟩ := ppy_one hp hR
    exact ⟨A0, cap, e1, h1, h2⟩)
  have HI := hid (fun (v : World) (hb : Below w.heap.size w v) => (c_ParseParity t v (by omega) mm (cell_kept hm hb)).mono fun e w' h => show ∃ A cap, e = .returned (.tuple #[.slice A R.length cap, .bool q]) ∧ w'.ownsRow v.heap.size 9 1 (.slice A R.length cap) R.length (R.map sv) ∧ Below v.heap.size v w' from by
    obtain ⟨ps, b, A0, cap, hp, e1, h1, h2⟩ := h
    obtain ⟨rfl, rfl⟩ := ppy_one hp hR
    exact ⟨A0, cap, e1, h1, h2⟩)
  clear hR hR40 hm
  go_enter Tryd.func5, Tryd.ntmps5
  go_wp2_with fail
  refine (HS.out _).mono ?_
  rintro e w1 ⟨A0, c0, rfl, own0, hb1⟩
  have z1 := hb1.size
  go_wp2_with fail
  refine (HI.out _ hb1).mono ?_
  rintro e w2 ⟨A1, c1, rfl, own1, hb2⟩
  have z2 := hb2.size
  have hB2 := hb1.trans (hb2.mono z1)
  have sep := hid (fun g (e0 : (Value.slice A0 R.length c0).ownBlock = some g) (e1 : (Value.slice A1 R.length c1).ownBlock = some g) => (absurd (own0.lt g e0).2 (by have := (own1.lt g e1).1; omega) : False))
  have own02 := own_on own0 hb2
  clear own0 hb1 hb2
  go_wp2_with fail
  refine (c_eqStringS A1 A0 c1 c0 R _ _ _ (own_strs_at own1) (own_strs_at own02) (Nat.le_refl _) (Nat.le_refl _) hn).mono ?_
  rintro e w3 ⟨rfl, hb3⟩
  have z3 := hb3.size
  have hB3 := hB2.trans (hb3.mono (by omega))
  have own03 := own_on own02 hb3
  have own13 := own_on own1 hb3
  clear hB2 own02 own1 hb3
  go_wp2_with fail
  refine (c_markStringS_any R _ c1 A1 _ own13 hn).mono ?_
  rintro e w4 ⟨rfl, own14, hg4⟩
  have hB4 := hB3.trans (below_of_grown hg4 hB3.size (fun g e => by have := (own13.lt g e).1; omega))
  have z4 := hg4.size
  have own04 := own_grownT own03 hg4 (fun g e0 e1 => sep.out g e0 e1)
  clear hB3 own03 own13 hg4
  go_wp2_with fail
  refine (c_heldStringS _ A1 c1 R.length _ (own_strs_at own14) (Nat.le_refl _) hn).mono ?_
  rintro e w5 ⟨rfl, hb5⟩
  have hB5 := hB4.trans (hb5.mono hB4.size)
  have own05 := own_on own04 hb5
  have own15 := own_on own14 hb5
  clear hB4 own04 own14 hb5
  go_wp2_with fail
  refine (HI.out _ hB5).mono ?_
  rintro e w6 ⟨A2, c2, rfl, own2, hb6⟩
  have hB6 := hB5.trans (hb6.mono hB5.size)
  have own06 := own_on own05 hb6
  have own16 := own_on own15 hb6
  clear hB5 own05 own15 hb6
  go_wp2_with fail
  refine (c_eqStringS A2 A0 c2 c0 R _ _ _ (own_strs_at own2) (own_strs_at own06) (Nat.le_refl _) (Nat.le_refl _) hn).mono ?_
  rintro e w7 ⟨rfl, hb7⟩
  have hB7 := hB6.trans (hb7.mono hB6.size)
  have own17 := own_on own16 hb7
  clear hB6 own06 own16 own2 hb7
  go_wp2_with fail
  refine (c_heldStringS _ A1 c1 R.length _ (own_strs_at own17) (Nat.le_refl _) hn).mono ?_
  rintro e w8 ⟨rfl, hb8⟩
  have hB8 := hB7.trans (hb8.mono hB7.size)
  go_wp2_with fail
  go_ret
  exact ⟨rfl, hB8⟩
end Go.Proofs.YtcliagnongbkmaaDoor
