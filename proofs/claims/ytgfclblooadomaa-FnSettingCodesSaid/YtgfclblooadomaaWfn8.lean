/- The walk of the law on a setting's codes. -/
import Derived.Test.YtgfclblooadomaaDraw9
import Derived.Test.YtgfclblooadomaaFit
import Derived.Test.YtgfclblooadomaaBn
import Derived.Test.YtgfclblooadomaaWfn2
import Derived.Deep.RegionHeld3
namespace Go.Proofs.Ytgfclblooadomaa
open Go.ChangeShapes Go.WideShapes Go.ChangeAt Go.RowKit Go.Joins
set_option linter.unusedVariables false

theorem bits_pow_all : ∀ k : Fin 11, 1 ≤ k.val → bitsNeeded (pow2 (k.val : Int) - 1) = (k.val : Int) ∧ bitsNeeded (pow2 (k.val : Int)) = (k.val : Int) + 1 := by decide +kernel
theorem bits_pow {m : Int} (h1 : 1 ≤ m) (h2 : m ≤ 10) : bitsNeeded (pow2 m - 1) = m ∧ bitsNeeded (pow2 m) = m + 1 := by
  obtain ⟨k, rfl⟩ := Int.eq_ofNat_of_zero_le (show 0 ≤ m by omega)
  exact bits_pow_all ⟨k, by omega⟩ (by show 1 ≤ k; omega)
theorem pow_gap_all : ∀ k : Fin 9, 1 ≤ k.val → 2 ≤ pow2 (k.val : Int) ∧ pow2 (k.val : Int) ≤ 256 := by decide +kernel
theorem pow_lo {l : Int} (h1 : 1 ≤ l) (h2 : l ≤ 8) : 2 ≤ pow2 l ∧ pow2 l ≤ 256 := by
  obtain ⟨k, rfl⟩ := Int.eq_ofNat_of_zero_le (show 0 ≤ l by omega)
  exact pow_gap_all ⟨k, by omega⟩ (by show 1 ≤ k; omega)
theorem pow_two_more {l m : Int} (h1 : 1 ≤ l) (h2 : l + 2 ≤ m) (h3 : m ≤ 10) : 4 * pow2 l ≤ pow2 m ∧ pow2 m ≤ 1024 := by
  have e : (4 : Nat) * 2 ^ l.toNat ≤ 2 ^ m.toNat := by
    rw [show (4 : Nat) = 2 ^ 2 from rfl, ← Nat.pow_add]; exact Nat.pow_le_pow_right (by omega) (by omega)
  have e2 : 2 ^ m.toNat ≤ 2 ^ 10 := Nat.pow_le_pow_right (by omega) (by omega)
  have h : ∀ n : Int, pow2 n = ((2 ^ n.toNat : Nat) : Int) := fun n => by simp [pow2]
  rw [h l, h m]; omega

theorem sk_of {w v : World} {N : Nat} {T : TypeId} {a b c : Value} (k : Blk v N T #[a, b, c]) (h : Below w.heap.size w v) : (Blk v N T #[a, b, c] ∧ v.cell? ⟨N, 0, none⟩ = some a ∧ v.cell? ⟨N, 1, none⟩ = some b ∧ v.cell? ⟨N, 2, none⟩ = some c ∧ Below w.heap.size w v) := ⟨k, k.cells3.1, k.cells3.2.1, k.cells3.2.2, h⟩
theorem sk_drew {w v : World} {N : Nat} {T : TypeId} {a b c : Value} (k : Blk v N T #[a, b, c]) (h : Below w.heap.size w v) : (Blk v.drew N T #[a, b, c] ∧ v.drew.cell? ⟨N, 0, none⟩ = some a ∧ v.drew.cell? ⟨N, 1, none⟩ = some b ∧ v.drew.cell? ⟨N, 2, none⟩ = some c ∧ Below w.heap.size w v.drew) := sk_of k.drew (bel_drew h)
theorem sk_alloc {w v : World} {N : Nat} {T : TypeId} {a b c : Value} (h : (Blk v N T #[a, b, c] ∧ v.cell? ⟨N, 0, none⟩ = some a ∧ v.cell? ⟨N, 1, none⟩ = some b ∧ v.cell? ⟨N, 2, none⟩ = some c ∧ Below w.heap.size w v)) (o : Obj) : (Blk (v.alloc o) N T #[a, b, c] ∧ (v.alloc o).cell? ⟨N, 0, none⟩ = some a ∧ (v.alloc o).cell? ⟨N, 1, none⟩ = some b ∧ (v.alloc o).cell? ⟨N, 2, none⟩ = some c ∧ Below w.heap.size w (v.alloc o)) := sk_of (h.1.alloc o) (bel_alloc h.2.2.2.2 o)
theorem sk_bel {w v u : World} {N : Nat} {T : TypeId} {a b c : Value} (hb : Below v.heap.size v u) (h : (Blk v N T #[a, b, c] ∧ v.cell? ⟨N, 0, none⟩ = some a ∧ v.cell? ⟨N, 1, none⟩ = some b ∧ v.cell? ⟨N, 2, none⟩ = some c ∧ Below w.heap.size w v)) : (Blk u N T #[a, b, c] ∧ u.cell? ⟨N, 0, none⟩ = some a ∧ u.cell? ⟨N, 1, none⟩ = some b ∧ u.cell? ⟨N, 2, none⟩ = some c ∧ Below w.heap.size w u) := sk_of (h.1.on hb) (bel_trans h.2.2.2.2 hb)
theorem sk_out {w v : World} {N : Nat} {T : TypeId} {a b c : Value} (h : (Blk v N T #[a, b, c] ∧ v.cell? ⟨N, 0, none⟩ = some a ∧ v.cell? ⟨N, 1, none⟩ = some b ∧ v.cell? ⟨N, 2, none⟩ = some c ∧ Below w.heap.size w v)) : Below w.heap.size w v := h.2.2.2.2

set_option maxRecDepth 100000 in
set_option maxHeartbeats 4000000 in
theorem walk_FnSettingCodes (A' : Option Addr) (n cap : Nat) (w : World) (hc : CodeAt w w.heap.size A' n cap) : Calls Try.prog 3 #[.slice A' n cap] w fun e w' => e = .returned (.bool true) ∧ Below w.heap.size w w' := by
  have hbig := big_code hc
  by_cases big : 1048576 < n
  · go_enter Try.func3, Try.ntmps3
    go_wp2_with fail
    go_ret
    exact ⟨rfl, by (repeat (first | exact Below.refl _ _ | assumption | refine bel_alloc ?_ _ | refine bel_drew ?_ | refine bel_drewN ?_ _ | refine bel_set ?_ (by first | omega | (simp; done) | (simp; omega)) _ | refine bel_trans ?_ (by assumption)))⟩
  · go_enter Try.func3, Try.ntmps3
    go_wp2_with fail
    refine (c_DrawClearCode _ _ _ _ _ (Nat.le_refl _) hc).mono ?_
    rintro e w1 ⟨o, l, m, rfl, ho, hl, hm, b1⟩
    go_wp2_with fail
    obtain ⟨N, hN⟩ : ∃ N, N = w1.heap.size := ⟨_, rfl⟩
    obtain ⟨W1, hW1⟩ : ∃ W1, W1 = w1.alloc (.cells #[.int .i64 o, .int .i64 l, .int .i64 m] 24) := ⟨_, rfl⟩
    rw [← hW1, ← hN]
    have k1 : Blk W1 N 24 #[.int .i64 o, .int .i64 l, .int .i64 m] := by rw [hW1, hN]; exact Blk.new w1 _ _
    have c1 : Below w.heap.size w W1 := by rw [hW1]; exact bel_alloc b1 _
    clear hW1 hN b1 hc
    cases h : setOk o l m with
    | false =>
      have H1 := hid (show ∀ w, Calls Try.prog 15 #[.agg #[.int .i64 o, .int .i64 l, .int .i64 m]] w fun e w' => e = .returned (.int .i64 (-1)) ∧ Below w.heap.size w w' by
        intro w; have := c_ClearCode o l m w; rw [clearCode, h, if_neg (by decide)] at this; exact this)
      have H2 := hid (show ∀ w, Calls Try.prog 16 #[.agg #[.int .i64 o, .int .i64 l, .int .i64 m]] w fun e w' => e = .returned (.int .i64 (-1)) ∧ Below w.heap.size w w' by
        intro w; have := c_sClearCode o l m w; rw [clearCode, h, if_neg (by decide)] at this; exact this)
      have H3 := hid (show ∀ w, Calls Try.prog 17 #[.agg #[.int .i64 o, .int .i64 l, .int .i64 m]] w fun e w' => e = .returned (.bool false) ∧ Below w.heap.size w w' by
        intro w; have := c_SettingValid o l m w; rw [h] at this; exact this)
      have H4 := hid (show ∀ w, Calls Try.prog 18 #[.agg #[.int .i64 o, .int .i64 l, .int .i64 m]] w fun e w' => e = .returned (.int .i64 (-1)) ∧ Below w.heap.size w w' by
        intro w; have := c_EndCode o l m w; rw [endCode, h, if_neg (by decide)] at this; exact this)
      have H5 := hid (show ∀ w, Calls Try.prog 19 #[.agg #[.int .i64 o, .int .i64 l, .int .i64 m]] w fun e w' => e = .returned (.int .i64 (-1)) ∧ Below w.heap.size w w' by
        intro w; have := c_LastCode o l m w; rw [lastCode, h, if_neg (by decide)] at this; exact this)
      clear h
      refine (H1.out _).mono ?_
      rintro e W2 ⟨rfl, hb2⟩
      have k2 := k1.on hb2
      have c2 := bel_trans c1 hb2
      obtain ⟨x2, y2, z2⟩ := k2.cells3
      clear hb2 c1
      go_wp2_with fail
      refine (H2.out _).mono ?_
      rintro e W3 ⟨rfl, hb3⟩
      have k3 := k2.on hb3
      have c3 := bel_trans c2 hb3
      obtain ⟨x3, y3, z3⟩ := k3.cells3
      clear hb3 c2
      go_wp2_with fail
      refine (H3.out _).mono ?_
      rintro e W4 ⟨rfl, hb4⟩
      have k4 := k3.on hb4
      have c4 := bel_trans c3 hb4
      obtain ⟨x4, y4, z4⟩ := k4.cells3
      clear hb4 c3
      go_wp2_with fail
      refine (H2.out _).mono ?_
      rintro e W5 ⟨rfl, hb5⟩
      have k5 := k4.on hb5
      have c5 := bel_trans c4 hb5
      obtain ⟨x5, y5, z5⟩ := k5.cells3
      clear hb5 c4
      go_wp2_with fail
      refine (H3.out _).mono ?_
      rintro e W6 ⟨rfl, hb6⟩
      have k6 := k5.on hb6
      have c6 := bel_trans c5 hb6
      obtain ⟨x6, y6, z6⟩ := k6.cells3
      clear hb6 c5
      go_wp2_with fail
      refine (H4.out _).mono ?_
      rintro e W7 ⟨rfl, hb7⟩
      have k7 := k6.on hb7
      have c7 := bel_trans c6 hb7
      obtain ⟨x7, y7, z7⟩ := k7.cells3
      clear hb7 c6
      go_wp2_with fail
      refine (H5.out _).mono ?_
      rintro e W8 ⟨rfl, hb8⟩
      have k8 := k7.on hb8
      have c8 := bel_trans c7 hb8
      obtain ⟨x8, y8, z8⟩ := k8.cells3
      clear hb8 c7
      go_wp2
      go_ret
      exact ⟨by simp_all, by (repeat (first | exact Below.refl _ _ | assumption | refine bel_alloc ?_ _ | refine bel_drew ?_ | refine bel_drewN ?_ _ | refine bel_set ?_ (by first | omega | (simp; done) | (simp; omega)) _ | refine bel_trans ?_ (by assumption)))⟩
    | true =>
      obtain ⟨s1, s2, s3⟩ := setOk_iff.1 h
      obtain ⟨C, hC⟩ : ∃ C, C = pow2 l := ⟨_, rfl⟩
      obtain ⟨E, hE⟩ : ∃ E, E = pow2 m - 1 := ⟨_, rfl⟩
      have q1 := pow_lo s2.1 s2.2
      have q2 := pow_two_more s2.1 s3.1 s3.2
      have q3 := bits_pow (m := m) (by omega) s3.2
      have q4 := bits_pow (m := l) s2.1 (by omega)
      rw [← hC] at q1 q2 q4
      have hCb : 2 ≤ C ∧ C ≤ 256 := q1
      have hEb : C + 1 < E ∧ E ≤ 1023 := by omega
      have hE1 : E + 1 = pow2 m := by omega
      obtain ⟨x, hx⟩ : ∃ x : UInt8, C - 1 = (x.toNat : Int) := ⟨UInt8.ofNat (C - 1).toNat, by rw [UInt8.toNat_ofNat']; omega⟩
      obtain ⟨D, hD⟩ : ∃ D, D = str [x] := ⟨_, rfl⟩
      have hcv := fun wr : World => run_one (P := Try.prog) (w := wr) Try.underlying22 Try.underlying5 Try.underlying9 hx
      rw [← hD] at hcv
      have H1 := hid (show ∀ w, Calls Try.prog 15 #[.agg #[.int .i64 o, .int .i64 l, .int .i64 m]] w fun e w' => e = .returned (.int .i64 C) ∧ Below w.heap.size w w' by
        intro w; have := c_ClearCode o l m w; rw [clearCode, h, if_pos rfl, ← hC] at this; exact this)
      have H2 := hid (show ∀ w, Calls Try.prog 16 #[.agg #[.int .i64 o, .int .i64 l, .int .i64 m]] w fun e w' => e = .returned (.int .i64 C) ∧ Below w.heap.size w w' by
        intro w; have := c_sClearCode o l m w; rw [clearCode, h, if_pos rfl, ← hC] at this; exact this)
      have H3 := hid (show ∀ w, Calls Try.prog 17 #[.agg #[.int .i64 o, .int .i64 l, .int .i64 m]] w fun e w' => e = .returned (.bool true) ∧ Below w.heap.size w w' by
        intro w; have := c_SettingValid o l m w; rw [h] at this; exact this)
      have H4 := hid (show ∀ w, Calls Try.prog 18 #[.agg #[.int .i64 o, .int .i64 l, .int .i64 m]] w fun e w' => e = .returned (.int .i64 (C + 1)) ∧ Below w.heap.size w w' by
        intro w; have := c_EndCode o l m w; rw [endCode, h, if_pos rfl, ← hC] at this; exact this)
      have H5 := hid (show ∀ w, Calls Try.prog 19 #[.agg #[.int .i64 o, .int .i64 l, .int .i64 m]] w fun e w' => e = .returned (.int .i64 E) ∧ Below w.heap.size w w' by
        intro w; have := c_LastCode o l m w; rw [lastCode, h, if_pos rfl, ← hE] at this; exact this)
      have H6 := hid (show ∀ w, Calls Try.prog 20 #[.int .i64 E] w (Same (.int .i64 m) w) by
        intro w; have := c_BitsNeeded E w (by omega); rw [hE, q3.1] at this; rw [hE]; exact this)
      have H7 := hid (show ∀ w, Calls Try.prog 20 #[.int .i64 (E + 1)] w (Same (.int .i64 (m + 1)) w) by
        intro w; have := c_BitsNeeded (E + 1) w (by omega); rw [hE1, q3.2] at this; rw [hE1]; exact this)
      have H8 := hid (show ∀ w, Calls Try.prog 20 #[.int .i64 C] w (Same (.int .i64 (l + 1)) w) by
        intro w; have := c_BitsNeeded C w (by omega); rw [q4.2] at this; exact this)
      have H9 := hid (show ∀ w, Calls Try.prog 21 #[.agg #[.int .i64 o, .int .i64 l, .int .i64 m], .string D] w fun e w' => e = .returned (.bool true) ∧ Below w.heap.size w w' by
        intro w; have := c_DataFits o l m D w (by rw [hD, str_size]; show 1 ≤ maxLen; decide)
        have e : dataFits o l m D = true := by rw [dataFits, h, hD, str_size, str_list, ← hC]; simp [ltc]; omega
        rw [e] at this; exact this)
      clear h hC hE q1 q2 q3 q4 hE1 hD hx
      refine (H1.out _).mono ?_
      rintro e W2 ⟨rfl, hb2⟩
      have k2 := k1.on hb2
      have c2 := bel_trans c1 hb2
      obtain ⟨x2, y2, z2⟩ := k2.cells3
      clear hb2 c1
      go_wp2_with fail
      refine (H2.out _).mono ?_
      rintro e W3 ⟨rfl, hb3⟩
      have k3 := k2.on hb3
      have c3 := bel_trans c2 hb3
      obtain ⟨x3, y3, z3⟩ := k3.cells3
      clear hb3 c2
      go_wp2_with fail
      refine (H3.out _).mono ?_
      rintro e W4 ⟨rfl, hb4⟩
      have k4 := k3.on hb4
      have c4 := bel_trans c3 hb4
      obtain ⟨x4, y4, z4⟩ := k4.cells3
      clear hb4 c3
      go_wp2_with fail
      refine (H5.out _).mono ?_
      rintro e W5 ⟨rfl, hb5⟩
      have k5 := k4.on hb5
      have c5 := bel_trans c4 hb5
      obtain ⟨x5, y5, z5⟩ := k5.cells3
      clear hb5 c4
      go_wp2_with fail
      have u1 : IntKind.i64.wrap (C + 1) = C + 1 := IntWalk.i64_in _ (by omega)
      have u2 : IntKind.i64.wrap (E + 1) = E + 1 := IntWalk.i64_in _ (by omega)
      have u3 : IntKind.i64.wrap (m + 1) = m + 1 := IntWalk.i64_in _ (by omega)
      have u4 : IntKind.i64.wrap (l + 1) = l + 1 := IntWalk.i64_in _ (by omega)
      have u5 : IntKind.i64.wrap (C - 1) = C - 1 := IntWalk.i64_in _ (by omega)
      have u6 : IntKind.u8.wrap (C - 1) = C - 1 := by simp only [IntKind.wrap_u8]; omega
      go_region_held3 (fun v : World => Blk v N 24 #[.int .i64 o, .int .i64 l, .int .i64 m] ∧ v.cell? ⟨N, 0, none⟩ = some (.int .i64 o) ∧ v.cell? ⟨N, 1, none⟩ = some (.int .i64 l) ∧ v.cell? ⟨N, 2, none⟩ = some (.int .i64 m) ∧ Below w.heap.size w v)
        (first | assumption | exact sk_alloc (by assumption) _ | exact sk_bel (by assumption) (by assumption) | exact sk_drew k5 c5)
        (first | (go_at_call 18; refine (H4.out _).mono ?_; rintro e w6 ⟨rfl, hb6⟩) | (go_at_call 20; refine (H6.out _).mono ?_; rintro e w' ⟨rfl, rfl⟩) | (go_at_call 20; refine (H7.out _).mono ?_; rintro e w' ⟨rfl, rfl⟩) | (go_at_call 20; refine (H8.out _).mono ?_; rintro e w' ⟨rfl, rfl⟩) | (go_at_call 21; refine (H9.out _).mono ?_; rintro e w7 ⟨rfl, hb7⟩))
      all_goals
        go_wp2
        go_ret
        exact ⟨by simp_all, sk_out (by assumption)⟩
end Go.Proofs.Ytgfclblooadomaa
