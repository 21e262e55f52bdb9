/- CountRaw in the program, and its law's walk. The layout of the header and the errors are as the program's text lays them. -/
import Derived.Test.YtkglpbaapekgnaaDoorRz
namespace Go.Proofs.YtkglpbaapekgnaaDoor
open Go.ChangeShapes Go.WideShapes Go.ChangeAt Go.RowKit Go.Joins
set_option linter.unusedVariables false
set_option linter.unusedSimpArgs false

set_option maxHeartbeats 4000000 in
set_option maxRecDepth 100000 in
theorem c_CountRaw (S : ByteArray) (L : List UInt8) (bs : List Bl) (c : Nat) (w : World) (a0 a1 a2 : Addr) (hS : S.size ≤ 1000000000000) (hL : L = S.data.toList) (hst : Stop L bs c) (hG : Glob w a0 a1 a2) : Calls Tryd.prog 20 #[.string S] w fun e w' => e = .returned (.int .i64 (if c = 0 then ((raws bs : Nat) : Int) else -1)) ∧ Below w.heap.size w w' := by
  by_cases hc : c = 0
  · subst hc
    have HA := hid (c_rc_yes hS hL hst hG)
    obtain ⟨N, hN⟩ : ∃ N, N = bs.length := ⟨_, rfl⟩
    have HN := hid hN
    have hN40 : N ≤ 40 := by rw [hN]; exact hst.brd.len_le
    rw [if_pos rfl]
    rw [← hN] at HA
    clear hN
    clear hst hG
    go_enter Tryd.func20, Tryd.ntmps20
    go_wp2_with fail
    refine (HA.out).mono ?_
    rintro e w1 ⟨A1, q1, A2, q2, rfl, h1, h2, hb1⟩
    rw [HN.out] at h1
    obtain ⟨A, cap, hA, hat, -⟩ := own_bls h1
    rw [← HN.out] at hA
    obtain ⟨rfl, -, rfl⟩ : A1 = A ∧ N = N ∧ q1 = cap := by simpa using hA
    have HT := hid hat
    clear h1 h2 hat hA
    have hRB := Blk.new w1 60 #[.slice none 0 0, .slice none 0 0, .int .i64 0, .int .i64 0]
    obtain ⟨r0, r1, r2, r3⟩ := hRB.cells4y
    have f0 := hRB.frozen 0
    have f1 := hRB.frozen 1
    have f2 := hRB.frozen 2
    have f3 := hRB.frozen 3
    clear hRB
    go_wp2_with fail
    go_loopw [5, 18] (fun t i wr => ∃ (k : Nat) (s : Nat), k ≤ N ∧ i = .int .i64 k ∧ t = .int .i64 (s : Int) ∧ Hid (s = raws (bs.take k)) ∧ s ≤ k ∧ Below w1.heap.size w1 wr) (fun _ i _ => N - (intOf i).toNat)
    case atStart => exact ⟨0, 0, Nat.zero_le _, rfl, rfl, hid rfl, by omega, by (repeat (first | with_reducible (first | assumption | exact Below.refl _ _ | refine bel_alloc ?_ _ | refine bel_drew ?_ | refine bel_drewN ?_ _ | refine bel_set ?_ (by first | omega | (simp; done) | (simp; omega)) _ | refine bel_trans ?_ (by assumption)) | assumption | refine bel_trans ?_ (by assumption)))⟩
    case round =>
      obtain ⟨k, s, hk, rfl, rfl, HS, hs, hbl⟩ := hrel
      by_cases hlt : k < N
      · have hlt2 : k < bs.length := by have := HN.out; omega
        rename_i wr _
        obtain ⟨b, off, rfl, hb, hc0, hc1, hc2, hc3⟩ := bl_at (HT.out.below hbl (Nat.le_refl _)) k hlt2
        obtain ⟨z, hzz⟩ : ∃ z, z = bs[k].raw := ⟨_, rfl⟩
        rw [← hzz] at hc1
        obtain ⟨z0, hz0⟩ : ∃ z0, z0 = bs[k].n := ⟨_, rfl⟩
        rw [← hz0] at hc0
        obtain ⟨z2, hz2⟩ : ∃ z2, z2 = bs[k].z := ⟨_, rfl⟩
        rw [← hz2] at hc2
        obtain ⟨z3, hz3⟩ : ∃ z3, z3 = bs[k].body := ⟨_, rfl⟩
        rw [← hz3] at hc3
        have HS2 := hid (show s + (if z = true then 1 else 0) = raws (bs.take (k + 1)) by rw [raws_take_succ bs k hlt2, ← HS.out, ← hzz])
        clear hzz hz0 hz2 hz3
        cases z with
        | true =>
          go_wp2_with fail
          go_roundw
          case rel => exact ⟨k + 1, s + 1, by omega, by go_num, by go_num, HS2, by omega, by (repeat (first | with_reducible (first | assumption | exact Below.refl _ _ | refine bel_alloc ?_ _ | refine bel_drew ?_ | refine bel_drewN ?_ _ | refine bel_set ?_ (by first | omega | (simp; done) | (simp; omega)) _ | refine bel_trans ?_ (by assumption)) | assumption | refine bel_trans ?_ (by assumption)))⟩
          case measure => simp [intOf]; omega
        | false =>
          go_wp2_with fail
          go_roundw
          case rel => exact ⟨k + 1, s, by omega, by go_num, rfl, HS2, by omega, by (repeat (first | with_reducible (first | assumption | exact Below.refl _ _ | refine bel_alloc ?_ _ | refine bel_drew ?_ | refine bel_drewN ?_ _ | refine bel_set ?_ (by first | omega | (simp; done) | (simp; omega)) _ | refine bel_trans ?_ (by assumption)) | assumption | refine bel_trans ?_ (by assumption)))⟩
          case measure => simp [intOf]; omega
      · have HE := hid (show s = raws bs by rw [HS.out, List.take_of_length_le (by have := HN.out; omega)])
        have hb9 := hb1.trans (hbl.mono hb1.size)
        go_wp2_with fail
        go_ret
        exact ⟨by rw [HE.out]; rfl, hb9⟩
  · have HA := hid (c_rc_no hS hL hst hc hG)
    rw [if_neg hc]
    clear hst hG
    go_enter Tryd.func20, Tryd.ntmps20
    go_wp2_with fail
    refine (HA.out).mono ?_
    rintro e w1 ⟨x, rfl, hb1⟩
    have hRB := Blk.new w1 60 #[.slice none 0 0, .slice none 0 0, .int .i64 0, .int .i64 0]
    obtain ⟨r0, r1, r2, r3⟩ := hRB.cells4y
    have f0 := hRB.frozen 0
    have f1 := hRB.frozen 1
    have f2 := hRB.frozen 2
    have f3 := hRB.frozen 3
    clear hRB
    go_wp2_with fail
    go_ret
    exact ⟨rfl, by (repeat (first | with_reducible (first | assumption | exact Below.refl _ _ | refine bel_alloc ?_ _ | refine bel_drew ?_ | refine bel_drewN ?_ _ | refine bel_set ?_ (by first | omega | (simp; done) | (simp; omega)) _ | refine bel_trans ?_ (by assumption)) | assumption | refine bel_trans ?_ (by assumption)))⟩

theorem walk_FnExactCountRaw (S : ByteArray) (w : World) (h_S : S.size ≤ maxLen) {a0 a1 a2 : Addr} (hG : Glob w a0 a1 a2) :
    Calls Tryd.prog 5 #[.string S] w fun e w' => e = .returned (.bool true) ∧ Below w.heap.size w w' := by
  by_cases big : 1048576 < S.size
  · unfold maxLen at *
    go_enter Tryd.func5, Tryd.ntmps5
    go_wp2_with fail
    go_ret
    exact ⟨rfl, by (repeat (first | with_reducible (first | assumption | exact Below.refl _ _ | refine bel_alloc ?_ _ | refine bel_drew ?_ | refine bel_drewN ?_ _ | refine bel_set ?_ (by first | omega | (simp; done) | (simp; omega)) _ | refine bel_trans ?_ (by assumption)) | assumption | refine bel_trans ?_ (by assumption)))⟩
  obtain ⟨bs, c, hst⟩ := stop_ex S.data.toList
  obtain ⟨V, hV⟩ : ∃ V : Int, V = if c = 0 then ((raws bs : Nat) : Int) else -1 := ⟨_, rfl⟩
  have HS := hid (fun v => c_sCountRaw S _ bs c v (by omega) rfl hst)
  have HI := hid (fun v (hG : Glob v a0 a1 a2) => c_CountRaw S _ bs c v a0 a1 a2 (by omega) rfl hst hG)
  rw [← hV] at HS HI
  have HG := hid hG
  clear hV hst hG
  go_enter Tryd.func5, Tryd.ntmps5
  go_wp2_with fail
  refine (HS.out _).mono ?_
  rintro e w1 ⟨rfl, hb1⟩
  go_wp2_with fail
  refine (HI.out _ (HG.out.on hb1)).mono ?_
  rintro e w2 ⟨rfl, hb2⟩
  go_wp2_with fail
  go_ret
  exact ⟨by simp_all, by (repeat (first | with_reducible (first | assumption | exact Below.refl _ _ | refine bel_alloc ?_ _ | refine bel_drew ?_ | refine bel_drewN ?_ _ | refine bel_set ?_ (by first | omega | (simp; done) | (simp; omega)) _ | refine bel_trans ?_ (by assumption)) | assumption | refine bel_trans ?_ (by assumption)))⟩
end Go.Proofs.YtkglpbaapekgnaaDoor
