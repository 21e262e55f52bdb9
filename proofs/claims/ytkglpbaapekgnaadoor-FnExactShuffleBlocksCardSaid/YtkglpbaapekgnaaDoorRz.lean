/- ContainerSize in the program, and its law's walk. The layout of the header and the errors are as the program's text lays them. -/
import Derived.Test.YtkglpbaapekgnaaDoorRc
namespace Go.Proofs.YtkglpbaapekgnaaDoor
open Go.ChangeShapes Go.WideShapes Go.ChangeAt Go.RowKit Go.Joins
set_option linter.unusedVariables false
set_option linter.unusedSimpArgs false

theorem ecV_no (a0 a1 a2 : Addr) {c : Nat} (hc : ¬ c = 0) : ∃ x, ecV a0 a1 a2 c = errV x := by
  unfold ecV
  rw [if_neg hc]
  split
  · exact ⟨_, rfl⟩
  · split
    · exact ⟨_, rfl⟩
    · exact ⟨_, rfl⟩

/-- readContainer where the bytes are a container -/
theorem c_rc_yes {S : ByteArray} {L : List UInt8} {bs : List Bl} {w : World} {a0 a1 a2 : Addr} (hS : S.size ≤ 1000000000000) (hL : L = S.data.toList) (hst : Stop L bs 0) (hG : Glob w a0 a1 a2) : Calls Tryd.prog 51 #[.string S] w fun e w' => ∃ A1 q1 A2 q2, e = .returned (.tuple #[.agg #[.slice A1 bs.length q1, .slice A2 (pls bs).length q2, .int .i64 ((txt bs).length : Nat), .int .i64 (zs bs : Nat)], .nilIface]) ∧ w'.ownsRow w.heap.size 27 4 (.slice A1 bs.length q1) bs.length (bvs bs) ∧ w'.ownsRow w.heap.size 58 2 (.slice A2 (pls bs).length q2) bs.length (prs (pls bs)) ∧ Below w.heap.size w w' := by
  refine (c_readContainer S L bs 0 w a0 a1 a2 hS hL hst hG).mono ?_
  rintro e w1 ⟨u1, u2, rfl, hr, hb⟩
  obtain ⟨h1, h2⟩ := hr rfl
  obtain ⟨A1, q1, rfl, -, -⟩ := own_bls h1
  obtain ⟨A2, q2, rfl, -, -, -⟩ := own_ps h2
  exact ⟨A1, q1, A2, q2, rfl, h1, h2, hb⟩

/-- readContainer where they are none -/
theorem c_rc_no {S : ByteArray} {L : List UInt8} {bs : List Bl} {c : Nat} {w : World} {a0 a1 a2 : Addr} (hS : S.size ≤ 1000000000000) (hL : L = S.data.toList) (hst : Stop L bs c) (hc : ¬ c = 0) (hG : Glob w a0 a1 a2) : Calls Tryd.prog 51 #[.string S] w fun e w' => ∃ x, e = .returned (.tuple #[.agg #[.slice none 0 0, .slice none 0 0, .int .i64 0, .int .i64 0], .iface 108 (.pointer (some x))]) ∧ Below w.heap.size w w' := by
  refine (c_readContainer S L bs c w a0 a1 a2 hS hL hst hG).mono ?_
  rintro e w1 ⟨u1, u2, rfl, -, hb⟩
  obtain ⟨x, hx⟩ := ecV_no a0 a1 a2 hc
  rw [hx]
  simp only [if_neg hc]
  exact ⟨x, rfl, hb⟩

set_option maxHeartbeats 4000000 in
set_option maxRecDepth 100000 in
theorem c_ContainerSize (S : ByteArray) (L : List UInt8) (bs : List Bl) (c : Nat) (w : World) (a0 a1 a2 : Addr) (hS : S.size ≤ 1000000000000) (hL : L = S.data.toList) (hst : Stop L bs c) (hG : Glob w a0 a1 a2) : Calls Tryd.prog 18 #[.string S] w fun e w' => e = .returned (.int .i64 (if c = 0 then ((zs bs : Nat) : Int) else -1)) ∧ Below w.heap.size w w' := by
  by_cases hc : c = 0
  · subst hc
    have HA := hid (c_rc_yes hS hL hst hG)
    clear hst hG
    rw [if_pos rfl]
    go_enter Tryd.func18, Tryd.ntmps18
    go_wp2_with fail
    refine (HA.out).mono ?_
    rintro e w1 ⟨A1, q1, A2, q2, rfl, -, -, hb1⟩
    have hRB := Blk.new w1 60 #[.slice none 0 0, .slice none 0 0, .int .i64 0, .int .i64 0]
    obtain ⟨r0, r1, r2, r3⟩ := hRB.cells4y
    have f0 := hRB.frozen 0
    have f1 := hRB.frozen 1
    have f2 := hRB.frozen 2
    have f3 := hRB.frozen 3
    clear hRB
    go_wp2_with fail
    go_ret
    exact ⟨rfl, by (repeat (first | with_reducible (first | assumption | exact Below.refl _ _ | refine bel_alloc ?_ _ | refine bel_drew ?_ | refine bel_drewN ?_ _ | refine bel_set ?_ (by first | omega | (simp; done) | (simp; omega)) _ | refine bel_trans ?_ (by assumption)) | assumption | refine bel_trans ?_ (by assumption)))⟩
  · have HA := hid (c_rc_no hS hL hst hc hG)
    clear hst hG
    rw [if_neg hc]
    go_enter Tryd.func18, Tryd.ntmps18
    go_wp2_with fail
    refine (HA.out).mono ?_
    rintro e w1 ⟨x, rfl, hb1⟩
    have hRB := Blk.new w1 60 #[.slice none 0 0, .slice none 0 0, .int .i64 0, .int .i64 0]
    obtain ⟨r0, r1, r2, r3⟩ := hRB.cells4y
    have f0 := hRB.frozen 0
    have f1 := hRB.frozen 1
    have f2 := hRB.frozen 2
    have f3 := hRB.frozen 3
    clear hRB
    go_wp2_with fail
    go_ret
    exact ⟨rfl, by (repeat (first | with_reducible (first | assumption | exact Below.refl _ _ | refine bel_alloc ?_ _ | refine bel_drew ?_ | refine bel_drewN ?_ _ | refine bel_set ?_ (by first | omega | (simp; done) | (simp; omega)) _ | refine bel_trans ?_ (by assumption)) | assumption | refine bel_trans ?_ (by assumption)))⟩

theorem walk_FnExactContainerSize (S : ByteArray) (w : World) (h_S : S.size ≤ maxLen) {a0 a1 a2 : Addr} (hG : Glob w a0 a1 a2) :
    Calls Tryd.prog 4 #[.string S] w fun e w' => e = .returned (.bool true) ∧ Below w.heap.size w w' := by
  by_cases big : 1048576 < S.size
  · unfold maxLen at *
    go_enter Tryd.func4, Tryd.ntmps4
    go_wp2_with fail
    go_ret
    exact ⟨rfl, by (repeat (first | with_reducible (first | assumption | exact Below.refl _ _ | refine bel_alloc ?_ _ | refine bel_drew ?_ | refine bel_drewN ?_ _ | refine bel_set ?_ (by first | omega | (simp; done) | (simp; omega)) _ | refine bel_trans ?_ (by assumption)) | assumption | refine bel_trans ?_ (by assumption)))⟩
  obtain ⟨bs, c, hst⟩ := stop_ex S.data.toList
  obtain ⟨V, hV⟩ : ∃ V : Int, V = if c = 0 then ((zs bs : Nat) : Int) else -1 := ⟨_, rfl⟩
  have HS := hid (fun v => c_sContainerSize S _ bs c v (by omega) rfl hst)
  have HI := hid (fun v (hG : Glob v a0 a1 a2) => c_ContainerSize S _ bs c v a0 a1 a2 (by omega) rfl hst hG)
  rw [← hV] at HS HI
  have HG := hid hG
  clear hV hst hG
  go_enter Tryd.func4, Tryd.ntmps4
  go_wp2_with fail
  refine (HS.out _).mono ?_
  rintro e w1 ⟨rfl, hb1⟩
  go_wp2_with fail
  refine (HI.out _ (HG.out.on hb1)).mono ?_
  rintro e w2 ⟨rfl, hb2⟩
  go_wp2_with fail
  go_ret
  exact ⟨by simp_all, by (repeat (first | with_reducible (first | assumption | exact Below.refl _ _ | refine bel_alloc ?_ _ | refine bel_drew ?_ | refine bel_drewN ?_ _ | refine bel_set ?_ (by first | omega | (simp; done) | (simp; omega)) _ | refine bel_trans ?_ (by assumption)) | assumption | refine bel_trans ?_ (by assumption)))⟩
end Go.Proofs.YtkglpbaapekgnaaDoor
