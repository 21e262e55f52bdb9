/- ContainerBlocks in both programs, and its law's walk. The layout of the header and the errors are as the program's text lays them. -/
import Derived.Test.YtbdpngcgdbihhaaDoorTd
import Derived.BigQuiet
namespace Go.Proofs.YtbdpngcgdbihhaaDoor
open Go.ChangeShapes Go.WideShapes Go.ChangeAt Go.RowKit Go.Joins
set_option linter.unusedVariables false
set_option linter.unusedSimpArgs false

theorem c_sContainerBlocks (S : ByteArray) (L : List UInt8) (bs R : List Bl) (c : Nat) (q : Bool) (w : World) (hS : S.size ≤ 1000000000000) (hL : L = S.data.toList) (hst : Stop L bs c) (hR : R = if c = 0 then bs else []) (hq : q = decide (c = 0)) : Calls Tryd.prog 26 #[.string S] w fun e w' => ∃ A cap, e = .returned (.tuple #[.slice A R.length cap, .bool q]) ∧ w'.ownsRow w.heap.size 27 4 (.slice A R.length cap) R.length (bvs R) ∧ Below w.heap.size w w' := by
  have HB := hid (c_l5Blocks S L bs c w hS hL hst)
  rw [← hR, ← hq] at HB
  clear hst hR hq
  go_enter Tryd.func26, Tryd.ntmps26
  go_wp2_with fail
  refine (HB.out).mono ?_
  rintro e w1 ⟨v, rfl, hown, hb1⟩
  obtain ⟨A, cap, rfl, -, -⟩ := own_bls hown
  go_wp2_with fail
  go_ret2
  exact ⟨_, _, rfl, hown, hb1⟩

set_option maxHeartbeats 4000000 in
set_option maxRecDepth 100000 in
theorem c_ContainerBlocks (S : ByteArray) (L : List UInt8) (bs R : List Bl) (c : Nat) (q : Bool) (w : World) {a0 a1 a2 : Addr} (hS : S.size ≤ 1000000000000) (hL : L = S.data.toList) (hst : Stop L bs c) (hR : R = if c = 0 then bs else []) (hq : q = decide (c = 0)) (hG : Glob w a0 a1 a2) : Calls Tryd.prog 27 #[.string S] w fun e w' => ∃ A cap, e = .returned (.tuple #[.slice A R.length cap, .bool q]) ∧ w'.ownsRow w.heap.size 27 4 (.slice A R.length cap) R.length (bvs R) ∧ Below w.heap.size w w' := by
  by_cases hc : c = 0
  · subst hc
    rw [if_pos rfl] at hR
    subst hR
    obtain rfl : q = true := by simpa using hq
    have HA := hid (c_rc_yes hS hL hst hG)
    clear hst hG hq
    go_enter Tryd.func27, Tryd.ntmps27
    go_wp2_with fail
    refine (HA.out).mono ?_
    rintro e w1 ⟨A1, q1, A2, q2, rfl, h1, h2, hb1⟩
    have hRB := Blk.new w1 60 #[.slice none 0 0, .slice none 0 0, .int .i64 0, .int .i64 0]
    obtain ⟨r0, r1, r2, r3⟩ := hRB.cells4y
    have f0 := hRB.frozen 0
    have f1 := hRB.frozen 1
    have f2 := hRB.frozen 2
    have f3 := hRB.frozen 3
    clear hRB
    go_wp2_with fail
    go_quiet (fail)
    go_wp2_with fail
    go_ret2
    exact ⟨_, _, rfl, own_on h1 (bel_drewN (bel_alloc (Below.refl _ w1) _) _), by (repeat (first | with_reducible (first | assumption | exact Below.refl _ _ | refine bel_alloc ?_ _ | refine bel_drew ?_ | refine bel_drewN ?_ _ | refine bel_set ?_ (by first | omega | (simp; done) | (simp; omega)) _ | refine bel_trans ?_ (by assumption)) | assumption | refine bel_trans ?_ (by assumption)))⟩
  · rw [if_neg hc] at hR
    subst hR
    obtain rfl : q = false := by simpa [hc] using hq
    have HA := hid (c_rc_no hS hL hst hc hG)
    clear hst hG hq
    go_enter Tryd.func27, Tryd.ntmps27
    go_wp2_with fail
    refine (HA.out).mono ?_
    rintro e w1 ⟨x, rfl, hb1⟩
    have hRB := Blk.new w1 60 #[.slice none 0 0, .slice none 0 0, .int .i64 0, .int .i64 0]
    obtain ⟨r0, r1, r2, r3⟩ := hRB.cells4y
    have f0 := hRB.frozen 0
    have f1 := hRB.frozen 1
    have f2 := hRB.frozen 2
    have f3 := hRB.frozen 3
    clear hRB
    go_wp2_with fail
    go_quiet (fail)
    go_wp2_with fail
    go_ret2
    exact ⟨_, _, rfl, own_bls_nil _ _ _, by (repeat (first | with_reducible (first | assumption | exact Below.refl _ _ | refine bel_alloc ?_ _ | refine bel_drew ?_ | refine bel_drewN ?_ _ | refine bel_set ?_ (by first | omega | (simp; done) | (simp; omega)) _ | refine bel_trans ?_ (by assumption)) | assumption | refine bel_trans ?_ (by assumption)))⟩

set_option maxHeartbeats 4000000 in
set_option maxRecDepth 100000 in
theorem walk_FnExactContainerBlocks (S : ByteArray) (w : World) (h_S : S.size ≤ maxLen) {a0 a1 a2 : Addr} (hG : Glob w a0 a1 a2) :
    Calls Tryd.prog 7 #[.string S] w fun e w' => e = .returned (.bool true) ∧ Below w.heap.size w w' := by
  by_cases big_S : 1048576 < S.size
  · unfold maxLen at *
    go_enter Tryd.func7, Tryd.ntmps7
    go_wp2_with fail
    go_ret
    exact ⟨rfl, by (repeat (first | with_reducible (first | assumption | exact Below.refl _ _ | refine bel_alloc ?_ _ | refine bel_drew ?_ | refine bel_drewN ?_ _ | refine bel_set ?_ (by first | omega | (simp; done) | (simp; omega)) _ | refine bel_trans ?_ (by assumption)) | assumption | refine bel_trans ?_ (by assumption)))⟩
  obtain ⟨bs, c, hst⟩ := stop_ex S.data.toList
  obtain ⟨R, hR⟩ : ∃ R, R = if c = 0 then bs else [] := ⟨_, rfl⟩
  obtain ⟨q, hq⟩ : ∃ q, q = decide (c = 0) := ⟨_, rfl⟩
  have hn : R.length ≤ 1000 := by
    have := hst.brd.len_le
    rw [hR]
    split <;> simp <;> omega
  have HS := hid (fun v => c_sContainerBlocks S _ bs R c q v (by omega) rfl hst hR hq)
  have HI := hid (fun v (hG : Glob v a0 a1 a2) => c_ContainerBlocks S _ bs R c q v (by omega) rfl hst hR hq hG)
  clear hst hR hq
  have HG := hid hG
  clear hG
  go_enter Tryd.func7, Tryd.ntmps7
  go_wp2_with fail
  refine (HS.out _).mono ?_
  rintro e w1 ⟨A0, c0, rfl, own0, hb1⟩
  have z1 := hb1.size
  go_wp2_with fail
  refine (HI.out _ (HG.out.on hb1)).mono ?_
  rintro e w2 ⟨A1, c1, rfl, own1, hb2⟩
  have z2 := hb2.size
  have hB2 := hb1.trans (hb2.mono z1)
  have sep := hid (fun g (e0 : (Value.slice A0 R.length c0).ownBlock = some g) (e1 : (Value.slice A1 R.length c1).ownBlock = some g) => (absurd (own0.lt g e0).2 (by have := (own1.lt g e1).1; omega) : False))
  have own02 := own_on own0 hb2
  clear own0 hb1 hb2
  go_wp2_with fail
  refine (c_eqBlockS A1 A0 c1 c0 R _ _ _ (own_blsq own1) (own_blsq own02) (Nat.le_refl _) (Nat.le_refl _) (by omega)).mono ?_
  rintro e w3 ⟨rfl, hb3⟩
  have z3 := hb3.size
  have hB3 := hB2.trans (hb3.mono (by omega))
  have own03 := own_on own02 hb3
  have own13 := own_on own1 hb3
  clear hB2 own02 own1 hb3
  go_wp2_with fail
  refine (c_markBlockS_any R _ c1 A1 _ own13 hn).mono ?_
  rintro e w4 ⟨rfl, own14, hg4⟩
  have hB4 := hB3.trans (below_of_grown hg4 hB3.size (fun g e => by have := (own13.lt g e).1; omega))
  have z4 := hg4.size
  have own04 := own_grownR own03 hg4 (fun g e0 e1 => sep.out g e0 e1)
  clear hB3 own03 own13 hg4
  go_wp2_with fail
  refine (c_heldBlockS _ A1 c1 R.length _ (own_blsq own14) (Nat.le_refl _) hn).mono ?_
  rintro e w5 ⟨rfl, hb5⟩
  have hB5 := hB4.trans (hb5.mono (by omega))
  have z5 := hb5.size
  have own05 := own_on own04 hb5
  have own15 := own_on own14 hb5
  clear hB4 own04 own14 hb5
  go_wp2_with fail
  refine (HI.out _ (HG.out.on hB5)).mono ?_
  rintro e w6 ⟨A2, c2, rfl, own2, hb6⟩
  have z6 := hb6.size
  have hB6 := hB5.trans (hb6.mono (by omega))
  have own06 := own_on own05 hb6
  have own16 := own_on own15 hb6
  clear hB5 own05 own15 hb6
  go_wp2_with fail
  refine (c_eqBlockS A2 A0 c2 c0 R _ _ _ (own_blsq own2) (own_blsq own06) (Nat.le_refl _) (Nat.le_refl _) (by omega)).mono ?_
  rintro e w7 ⟨rfl, hb7⟩
  have hB7 := hB6.trans (hb7.mono (by omega))
  have own17 := own_on own16 hb7
  clear hB6 own06 own16 own2 hb7
  go_wp2_with fail
  refine (c_heldBlockS _ A1 c1 R.length _ (own_blsq own17) (Nat.le_refl _) hn).mono ?_
  rintro e w8 ⟨rfl, hb8⟩
  have z7 := hB7.size
  have hB8 := hB7.trans (hb8.mono (by omega))
  go_wp2_with fail
  go_ret
  exact ⟨rfl, hB8⟩
end Go.Proofs.YtbdpngcgdbihhaaDoor
