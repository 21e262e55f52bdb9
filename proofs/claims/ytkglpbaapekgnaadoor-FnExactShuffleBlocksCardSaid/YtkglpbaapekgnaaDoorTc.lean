/- IndexOf in both programs, and its law's walk. The layout of the header and the errors are as the program's text lays them. -/
import Derived.Test.YtkglpbaapekgnaaDoorTb
import Derived.BigQuiet
namespace Go.Proofs.YtkglpbaapekgnaaDoor
open Go.ChangeShapes Go.WideShapes Go.ChangeAt Go.RowKit Go.Joins
set_option linter.unusedVariables false
set_option linter.unusedSimpArgs false

theorem own_psq {w : World} {B : Nat} {e : TypeId} {A : Option Addr} {n cap : Nat} {l : List Pr} (h : w.ownsRow B e 2 (.slice A n cap) n (prs l)) : PsAt w w.heap.size A cap l := by
  obtain ⟨A', cap', e1, h2, _, _⟩ := own_ps h
  obtain ⟨rfl, -, rfl⟩ : A = A' ∧ n = l.length ∧ cap = cap' := by simpa using e1
  exact h2

theorem c_sIndexOf (S : ByteArray) (L : List UInt8) (bs R : List Bl) (c : Nat) (q : Bool) (w : World) (hS : S.size ≤ 1000000000000) (hL : L = S.data.toList) (hst : Stop L bs c) (hR : R = if c = 0 then bs else []) (hq : q = decide (c = 0)) : Calls Tryd.prog 21 #[.string S] w fun e w' => ∃ A cap, e = .returned (.tuple #[.slice A R.length cap, .bool q]) ∧ w'.ownsRow w.heap.size 58 2 (.slice A R.length cap) R.length (prs (pls R)) ∧ Below w.heap.size w w' := by
  have HB := hid (c_l5Blocks S L bs c w hS hL hst)
  rw [← hR, ← hq] at HB
  have hR40 : R.length ≤ 40 := by
    rw [hR]; split
    · exact hst.brd.len_le
    · simp
  have hok : ∀ b ∈ R, b.ok := by
    rw [hR]; split
    · exact hst.brd.okAll
    · simp
  have HK := hid (fun (A : Option Addr) (cap : Nat) (v : World) (h : BlsAt v v.heap.size A cap R) => c_l5Places A cap R v.heap.size v h (Nat.le_refl _) hR40 hok)
  have HQ := hid (show q = false → R = [] by rw [hq, hR]; intro h; simp at h; rw [if_neg h])
  clear hst hR hq hok
  go_enter Tryd.func21, Tryd.ntmps21
  go_wp2_with fail
  refine (HB.out).mono ?_
  rintro e w1 ⟨v, rfl, hown, hb1⟩
  obtain ⟨A, cap, rfl, hat, -⟩ := own_bls hown
  have HT := hid hat
  clear hown hat
  cases q with
  | true =>
    go_wp2_with fail
    refine (HK.out _ _ _ HT.out).mono ?_
    rintro e w2 ⟨v, rfl, hown, hb2⟩
    obtain ⟨A2, cap2, rfl, -, -, -⟩ := own_ps hown
    rw [pls_len] at hown ⊢
    have hb := hb1.trans (hb2.mono hb1.size)
    have ho := own_mono (B' := w.heap.size) hown hb1.size
    go_wp2_with fail
    go_ret2
    exact ⟨_, _, rfl, ho, hb⟩
  | false =>
    have hr := HQ.out rfl
    subst hr
    go_wp2_with fail
    go_ret2
    exact ⟨_, _, rfl, own_pl0 _ _ hb1.size, bel_alloc hb1 _⟩

set_option maxHeartbeats 4000000 in
set_option maxRecDepth 100000 in
theorem c_IndexOf (S : ByteArray) (L : List UInt8) (bs R : List Bl) (c : Nat) (q : Bool) (w : World) {a0 a1 a2 : Addr} (hS : S.size ≤ 1000000000000) (hL : L = S.data.toList) (hst : Stop L bs c) (hR : R = if c = 0 then bs else []) (hq : q = decide (c = 0)) (hG : Glob w a0 a1 a2) : Calls Tryd.prog 22 #[.string S] w fun e w' => ∃ A cap, e = .returned (.tuple #[.slice A R.length cap, .bool q]) ∧ w'.ownsRow w.heap.size 58 2 (.slice A R.length cap) R.length (prs (pls R)) ∧ Below w.heap.size w w' := by
  by_cases hc : c = 0
  · subst hc
    rw [if_pos rfl] at hR
    subst hR
    obtain rfl : q = true := by simpa using hq
    have HA := hid (c_rc_yes hS hL hst hG)
    clear hst hG hq
    go_enter Tryd.func22, Tryd.ntmps22
    go_wp2_with fail
    refine (HA.out).mono ?_
    rintro e w1 ⟨A1, q1, A2, q2, rfl, h1, h2, hb1⟩
    rw [pls_len] at h2 ⊢
    have hRB := Blk.new w1 60 #[.slice none 0 0, .slice none 0 0, .int .i64 0, .int .i64 0]
    obtain ⟨r0, r1, r2, r3⟩ := hRB.cells4y
    have f0 := hRB.frozen 0
    have f1 := hRB.frozen 1
    have f2 := hRB.frozen 2
    have f3 := hRB.frozen 3
    clear hRB
    go_wp2_with fail
    go_quiet (fail)
    go_wp2_with fail
    go_ret2
    exact ⟨_, _, rfl, own_on h2 (bel_drewN (bel_alloc (Below.refl _ w1) _) _), by (repeat (first | with_reducible (first | assumption | exact Below.refl _ _ | refine bel_alloc ?_ _ | refine bel_drew ?_ | refine bel_drewN ?_ _ | refine bel_set ?_ (by first | omega | (simp; done) | (simp; omega)) _ | refine bel_trans ?_ (by assumption)) | assumption | refine bel_trans ?_ (by assumption)))⟩
  · rw [if_neg hc] at hR
    subst hR
    obtain rfl : q = false := by simpa [hc] using hq
    have HA := hid (c_rc_no hS hL hst hc hG)
    clear hst hG hq
    go_enter Tryd.func22, Tryd.ntmps22
    go_wp2_with fail
    refine (HA.out).mono ?_
    rintro e w1 ⟨x, rfl, hb1⟩
    have hRB := Blk.new w1 60 #[.slice none 0 0, .slice none 0 0, .int .i64 0, .int .i64 0]
    obtain ⟨r0, r1, r2, r3⟩ := hRB.cells4y
    have f0 := hRB.frozen 0
    have f1 := hRB.frozen 1
    have f2 := hRB.frozen 2
    have f3 := hRB.frozen 3
    clear hRB
    go_wp2_with fail
    go_quiet (fail)
    go_wp2_with fail
    go_ret2
    exact ⟨_, _, rfl, own_ps_nil _ _ _, by (repeat (first | with_reducible (first | assumption | exact Below.refl _ _ | refine bel_alloc ?_ _ | refine bel_drew ?_ | refine bel_drewN ?_ _ | refine bel_set ?_ (by first | omega | (simp; done) | (simp; omega)) _ | refine bel_trans ?_ (by assumption)) | assumption | refine bel_trans ?_ (by assumption)))⟩

set_option maxHeartbeats 4000000 in
set_option maxRecDepth 100000 in
theorem walk_FnExactIndexOf (S : ByteArray) (w : World) (h_S : S.size ≤ maxLen) {a0 a1 a2 : Addr} (hG : Glob w a0 a1 a2) :
    Calls Tryd.prog 6 #[.string S] w fun e w' => e = .returned (.bool true) ∧ Below w.heap.size w w' := by
  by_cases big_S : 1048576 < S.size
  · unfold maxLen at *
    go_enter Tryd.func6, Tryd.ntmps6
    go_wp2_with fail
    go_ret
    exact ⟨rfl, by (repeat (first | with_reducible (first | assumption | exact Below.refl _ _ | refine bel_alloc ?_ _ | refine bel_drew ?_ | refine bel_drewN ?_ _ | refine bel_set ?_ (by first | omega | (simp; done) | (simp; omega)) _ | refine bel_trans ?_ (by assumption)) | assumption | refine bel_trans ?_ (by assumption)))⟩
  obtain ⟨bs, c, hst⟩ := stop_ex S.data.toList
  obtain ⟨R0, hR⟩ : ∃ R0, R0 = if c = 0 then bs else [] := ⟨_, rfl⟩
  obtain ⟨q, hq⟩ : ∃ q, q = decide (c = 0) := ⟨_, rfl⟩
  have hn : (pls R0).length ≤ 1048576 := by
    have := hst.brd.len_le
    rw [pls_len, hR]
    split <;> simp <;> omega
  have HS := hid (fun v => c_sIndexOf S _ bs R0 c q v (by omega) rfl hst hR hq)
  have HI := hid (fun v (hG : Glob v a0 a1 a2) => c_IndexOf S _ bs R0 c q v (by omega) rfl hst hR hq hG)
  clear hst hR hq
  rw [← pls_len R0] at HS HI
  obtain ⟨R, hR2⟩ : ∃ R, R = pls R0 := ⟨_, rfl⟩
  rw [← hR2] at HS HI hn
  clear hR2
  have HG := hid hG
  clear hG
  go_enter Tryd.func6, Tryd.ntmps6
  go_wp2_with fail
  refine (HS.out _).mono ?_
  rintro e w1 ⟨A0, c0, rfl, own0, hb1⟩
  have z1 := hb1.size
  go_wp2_with fail
  refine (HI.out _ (HG.out.on hb1)).mono ?_
  rintro e w2 ⟨A1, c1, rfl, own1, hb2⟩
  have z2 := hb2.size
  have hB2 := hb1.trans (hb2.mono z1)
  have sep := hid (fun g (e0 : (Value.slice A0 R.length c0).ownBlock = some g) (e1 : (Value.slice A1 R.length c1).ownBlock = some g) => (absurd (own0.lt g e0).2 (by have := (own1.lt g e1).1; omega) : False))
  have own02 := own_on own0 hb2
  clear own0 hb1 hb2
  go_wp2_with fail
  refine (c_eqPlaceS A1 A0 c1 c0 R _ _ _ (own_psq own1) (own_psq own02) (Nat.le_refl _) (Nat.le_refl _) hn).mono ?_
  rintro e w3 ⟨rfl, hb3⟩
  have z3 := hb3.size
  have hB3 := hB2.trans (hb3.mono (by omega))
  have own03 := own_on own02 hb3
  have own13 := own_on own1 hb3
  clear hB2 own02 own1 hb3
  go_wp2_with fail
  refine (c_markPlaceS_any R _ c1 A1 _ own13 hn).mono ?_
  rintro e w4 ⟨rfl, own14, hg4⟩
  have hB4 := hB3.trans (below_of_grown hg4 hB3.size (fun g e => by have := (own13.lt g e).1; omega))
  have z4 := hg4.size
  have own04 := own_grownR own03 hg4 (fun g e0 e1 => sep.out g e0 e1)
  clear hB3 own03 own13 hg4
  go_wp2_with fail
  refine (c_heldPlaceS _ A1 c1 R.length _ (own_psq own14) hn).mono ?_
  rintro e w5 ⟨rfl, rfl⟩
  go_wp2_with fail
  refine (HI.out _ (HG.out.on hB4)).mono ?_
  rintro e w6 ⟨A2, c2, rfl, own2, hb6⟩
  have z6 := hb6.size
  have hB6 := hB4.trans (hb6.mono (by omega))
  have own06 := own_on own04 hb6
  have own16 := own_on own14 hb6
  clear hB4 own04 own14 hb6
  go_wp2_with fail
  refine (c_eqPlaceS A2 A0 c2 c0 R _ _ _ (own_psq own2) (own_psq own06) (Nat.le_refl _) (Nat.le_refl _) hn).mono ?_
  rintro e w7 ⟨rfl, hb7⟩
  have hB7 := hB6.trans (hb7.mono (by omega))
  have own17 := own_on own16 hb7
  clear hB6 own06 own16 own2 hb7
  go_wp2_with fail
  refine (c_heldPlaceS _ A1 c1 R.length _ (own_psq own17) hn).mono ?_
  rintro e w8 ⟨rfl, rfl⟩
  go_wp2_with fail
  go_ret
  exact ⟨rfl, hB7⟩
end Go.Proofs.YtkglpbaapekgnaaDoor
