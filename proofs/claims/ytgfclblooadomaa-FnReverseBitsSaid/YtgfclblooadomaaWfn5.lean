/- The walk of the law on ReverseBits. -/
import Derived.Test.YtgfclblooadomaaDraw6
import Derived.Test.YtgfclblooadomaaRb
import Derived.Test.YtgfclblooadomaaWfn2
namespace Go.Proofs.Ytgfclblooadomaa
open Go.ChangeShapes Go.WideShapes Go.ChangeAt Go.RowKit Go.Joins
set_option linter.unusedVariables false

theorem revV_bits (n k : Int) : M.bitsOf k.toNat (revV n k) = (M.bitsOf k.toNat n.toNat).reverse := by
  have h := M.bitsOf_num (M.dir true (M.bitsOf k.toNat n.toNat))
  rw [M.dir_length, M.bitsOf_length] at h
  exact h
theorem revV_lt (n k : Int) : revV n k < 2 ^ k.toNat := by
  have h := M.num_lt (M.dir true (M.bitsOf k.toNat n.toNat))
  rw [M.dir_length, M.bitsOf_length] at h
  exact h
theorem toNat_lt_pow {n k : Int} (h0 : 0 ≤ n) (h : n < pow2 k) : n.toNat < 2 ^ k.toNat := by
  unfold pow2 at h
  have h1 : ((n.toNat : Nat) : Int) < ((2 ^ k.toNat : Nat) : Int) := by rw [Int.toNat_of_nonneg h0]; push_cast; exact h
  exact Int.ofNat_lt.1 h1
theorem revV_rev {n k : Int} (h0 : 0 ≤ n) (h : n < pow2 k) : ((revV (revV n k : Int) k : Nat) : Int) = n := by
  rw [revV, Int.toNat_natCast, revV_bits]
  show ((M.num (M.bitsOf k.toNat n.toNat).reverse.reverse : Nat) : Int) = n
  rw [List.reverse_reverse, M.num_bitsOf _ _ (toNat_lt_pow h0 h)]; omega
theorem revV_fits {n k : Int} (h : codeFits n k = true) : codeFits (revV n k : Int) k = true := by
  obtain ⟨h1, h2, h3⟩ := codeFits_iff.1 h
  refine codeFits_iff.2 ⟨h1, by omega, ?_⟩
  have := revV_lt n k
  unfold pow2
  have h4 : ((revV n k : Nat) : Int) < ((2 ^ k.toNat : Nat) : Int) := Int.ofNat_lt.2 this
  push_cast at h4; exact h4
theorem revV_code (n k : Int) : codeBitsS 1 (revV n k : Int) k = codeBitsS 0 n k := by
  rw [codeBitsS, codeBitsS, M.codeBits, M.codeBits, Int.toNat_natCast, revV_bits]
  show str (M.asc (M.bitsOf k.toNat n.toNat).reverse.reverse) = str (M.asc (M.bitsOf k.toNat n.toNat))
  rw [List.reverse_reverse]

theorem walk_FnReverseBits (A' : Option Addr) (n cap : Nat) (w : World) (hc : CodeAt w w.heap.size A' n cap) : Calls Try.prog 7 #[.slice A' n cap] w fun e w' => e = .returned (.bool true) ∧ Below w.heap.size w w' := by
  have hbig := big_code hc
  by_cases big : 1048576 < n
  · go_enter Try.func7, Try.ntmps7
    go_wp2_with fail
    go_ret
    exact ⟨rfl, by (repeat (first | exact Below.refl _ _ | assumption | refine bel_alloc ?_ _ | refine bel_drew ?_ | refine bel_drewN ?_ _ | refine bel_set ?_ (by first | omega | (simp; done) | (simp; omega)) _ | refine bel_trans ?_ (by assumption)))⟩
  · go_enter Try.func7, Try.ntmps7
    go_wp2_with fail
    refine (c_DrawReverseBits _ _ _ _ hc).mono ?_
    rintro e w1 ⟨m, k, rfl, hm, hk, hb1⟩
    by_cases h : codeFits m k = true
    · obtain ⟨h1, h2, h3⟩ := codeFits_iff.1 h
      have hlt : (revV m k : Int) < pow2 k := (codeFits_iff.1 (revV_fits h)).2.2
      have hpd := pow2_bd (n := k) (by omega)
      obtain ⟨K, hK⟩ : ∃ K : Int, K = (revV m k : Int) := ⟨_, rfl⟩
      obtain ⟨T, hT⟩ : ∃ T, T = codeBitsS 0 m k := ⟨_, rfl⟩
      have hKb : -9223372036854775808 ≤ K ∧ K ≤ 9223372036854775807 := by omega
      have H1 := hid (show ∀ w, Calls Try.prog 32 #[.int .i64 m, .int .i64 k] w (Same (.tuple #[.int .i64 K, .bool true]) w) by
        intro w; have := c_ReverseBits m k w hm; rw [if_pos h, h] at this; rw [hK]; exact this)
      have H2 := hid (show ∀ w, Calls Try.prog 33 #[.int .i64 m, .int .i64 k] w fun e w' => e = .returned (.tuple #[.int .i64 K, .bool true]) ∧ Below w.heap.size w w' by
        intro w; have := c_sReverseBits m k w; rw [if_pos h, h] at this; rw [hK]; exact this)
      have H3 := hid (show ∀ w, Calls Try.prog 32 #[.int .i64 K, .int .i64 k] w (Same (.tuple #[.int .i64 m, .bool true]) w) by
        intro w; have := c_ReverseBits K k w hKb; rw [hK, if_pos (revV_fits h), revV_fits h, revV_rev h2 h3] at this; rw [hK]; exact this)
      have H4 := hid (show ∀ w, Calls Try.prog 29 #[.int .i64 0, .int .i64 m, .int .i64 k] w fun e w' => e = .returned (.tuple #[.string T, .bool true]) ∧ Below w.heap.size w w' by
        intro w; rw [hT]; exact c_CodeBits_yes 0 m k w hm (by rw [codeOk, h]; rfl))
      have H5 := hid (show ∀ w, Calls Try.prog 29 #[.int .i64 1, .int .i64 K, .int .i64 k] w fun e w' => e = .returned (.tuple #[.string T, .bool true]) ∧ Below w.heap.size w w' by
        intro w; have := c_CodeBits_yes 1 K k w hKb (by rw [codeOk, hK, revV_fits h]; rfl); rw [hK, revV_code] at this; rw [hT, hK]; exact this)
      clear hK hT h hlt h3
      go_wp2_with fail
      refine (H1.out _).mono ?_
      rintro e w' ⟨rfl, rfl⟩
      go_wp2_with fail
      refine (H2.out _).mono ?_
      rintro e w2 ⟨rfl, hb2⟩
      go_wp2_with fail
      refine (H3.out _).mono ?_
      rintro e w' ⟨rfl, rfl⟩
      go_wp2_with fail
      refine (H4.out _).mono ?_
      rintro e w3 ⟨rfl, hb3⟩
      go_wp2_with fail
      refine (H5.out _).mono ?_
      rintro e w4 ⟨rfl, hb4⟩
      go_wp2
      go_ret
      exact ⟨by simp_all, by (repeat (first | exact Below.refl _ _ | assumption | refine bel_alloc ?_ _ | refine bel_drew ?_ | refine bel_drewN ?_ _ | refine bel_set ?_ (by first | omega | (simp; done) | (simp; omega)) _ | refine bel_trans ?_ (by assumption)))⟩
    · have hno : codeFits m k = false := by simpa using h
      have H1 := hid (show ∀ w, Calls Try.prog 32 #[.int .i64 m, .int .i64 k] w (Same (.tuple #[.int .i64 0, .bool false]) w) by
        intro w; have := c_ReverseBits m k w hm; rw [if_neg h, hno] at this; exact this)
      have H2 := hid (show ∀ w, Calls Try.prog 33 #[.int .i64 m, .int .i64 k] w fun e w' => e = .returned (.tuple #[.int .i64 0, .bool false]) ∧ Below w.heap.size w w' by
        intro w; have := c_sReverseBits m k w; rw [if_neg h, hno] at this; exact this)
      clear h hno
      go_wp2_with fail
      refine (H1.out _).mono ?_
      rintro e w' ⟨rfl, rfl⟩
      go_wp2_with fail
      refine (H2.out _).mono ?_
      rintro e w2 ⟨rfl, hb2⟩
      go_wp2
      go_ret
      exact ⟨by simp_all, by (repeat (first | exact Below.refl _ _ | assumption | refine bel_alloc ?_ _ | refine bel_drew ?_ | refine bel_drewN ?_ _ | refine bel_set ?_ (by first | omega | (simp; done) | (simp; omega)) _ | refine bel_trans ?_ (by assumption)))⟩
end Go.Proofs.Ytgfclblooadomaa
