/- The walks of the laws on BitAt and SpanBits. -/
import Derived.Test.YtgfclblooadomaaDraw4
import Derived.Test.YtgfclblooadomaaBit
import Derived.Test.YtgfclblooadomaaWfn2
namespace Go.Proofs.Ytgfclblooadomaa
open Go.ChangeShapes Go.WideShapes Go.ChangeAt Go.RowKit Go.Joins
set_option linter.unusedVariables false

theorem unpack_at {o : Int} {s U : ByteArray} {a : Nat} (hU : U = str (unpackL o s)) (ho : o = 0 ∨ o = 1) (ha : a < 8 * s.size) (h : a < U.size) : ((U[a]'h).toNat : Int) = 48 + bitV o s a := by
  have h1 := unpackL_get o s a ho ha
  have h2 : U.data.toList[a]? = some (M.chr (bitV o s a == 1)) := by rw [hU, str_list]; exact h1
  rw [chr_bitV]
  have h3 : U.data.toList[a]? = some U[a] := by rw [Array.getElem?_toList]; exact Array.getElem?_eq_getElem h
  rw [h3] at h2
  simp at h2
  rw [h2]

theorem walk_FnBitAt (A' : Option Addr) (n cap : Nat) (w : World) (hc : CodeAt w w.heap.size A' n cap) : Calls Try.prog 10 #[.slice A' n cap] w fun e w' => e = .returned (.bool true) ∧ Below w.heap.size w w' := by
  have hbig := big_code hc
  by_cases big : 1048576 < n
  · go_enter Try.func10, Try.ntmps10
    go_wp2_with fail
    go_ret
    exact ⟨rfl, by (repeat (first | exact Below.refl _ _ | assumption | refine bel_alloc ?_ _ | refine bel_drew ?_ | refine bel_drewN ?_ _ | refine bel_set ?_ (by first | omega | (simp; done) | (simp; omega)) _ | refine bel_trans ?_ (by assumption)))⟩
  · go_enter Try.func10, Try.ntmps10
    go_wp2_with fail
    refine (c_DrawBitAt _ _ _ _ _ (Nat.le_refl _) hc).mono ?_
    rintro e w1 ⟨o, s, i, rfl, hx, hs, hi, hb1⟩
    have hsm : s.size ≤ maxLen := by unfold maxLen; omega
    obtain ⟨V, hV⟩ : ∃ V, V = bitAtV o s i := ⟨_, rfl⟩
    have H1 := hid (show ∀ w, Calls Try.prog 42 #[.int .i64 o, .string s, .int .i64 i] w (Same (.int .i64 V) w) by intro w; rw [hV]; exact c_BitAt o s i w hsm hi)
    have H2 := hid (show ∀ w, Calls Try.prog 43 #[.int .i64 o, .string s, .int .i64 i] w fun e w' => e = .returned (.int .i64 V) ∧ Below w.heap.size w w' by intro w; rw [hV]; exact c_sBitAt o s i w hsm hi)
    cases h : stOk o s with
    | false =>
      have hv : (V == -1) = true := eq_yes (by rw [hV, bitAtV, if_neg (by simp [h])])
      have H3 := hid (fun w => c_UnpackBits_no o s w hsm h)
      clear hV h
      go_wp2_with fail
      refine (H1.out _).mono ?_
      rintro e w' ⟨rfl, rfl⟩
      go_wp2_with fail
      refine (H2.out _).mono ?_
      rintro e w2 ⟨rfl, hb2⟩
      go_wp2_with fail
      refine (H3.out _).mono ?_
      rintro e w3 ⟨rfl, hb3⟩
      go_wp2
      go_ret
      exact ⟨rfl, by (repeat (first | exact Below.refl _ _ | assumption | refine bel_alloc ?_ _ | refine bel_drew ?_ | refine bel_drewN ?_ _ | refine bel_set ?_ (by first | omega | (simp; done) | (simp; omega)) _ | refine bel_trans ?_ (by assumption)))⟩
    | true =>
      obtain ⟨ho, h4⟩ := stOk_iff.1 h
      obtain ⟨U, hU⟩ : ∃ U, U = str (unpackL o s) := ⟨_, rfl⟩
      have hUs : U.size = 8 * s.size := by rw [hU, str_size, unpackL_len]
      have H3 := hid (show ∀ w, Calls Try.prog 35 #[.int .i64 o, .string s] w fun e w' => e = .returned (.tuple #[.string U, .bool true]) ∧ Below w.heap.size w w' by intro w; rw [hU]; exact c_UnpackBits_yes o s w hsm h)
      by_cases hr : 0 ≤ i ∧ i < 8 * s.size
      · obtain ⟨a, rfl⟩ := Int.eq_ofNat_of_zero_le hr.1
        have ha : a < 8 * s.size := by omega
        have haU : a < U.size := by omega
        have hat := unpack_at hU (orderOk_iff.1 ho) ha haU
        have hbd := bitV_bd o s a
        have hv : (V == ((U[a]'haU).toNat : Int) - 48) = true := eq_yes (by rw [hV, bitAtV, if_pos ⟨h, hr⟩, hat, Int.toNat_natCast]; omega)
        have hb8 := byte_le U a haU
        have hUs1 : (U.size : Int) = 8 * (s.size : Int) := by omega
        have hn1 : ((a : Int) < (U.size : Int)) := by omega
        have hn0 : (0 : Int) ≤ (a : Int) := by omega
        clear hV h hU hat hUs hUs1 hr hbd
        go_wp2_with fail
        refine (H1.out _).mono ?_
        rintro e w' ⟨rfl, rfl⟩
        go_wp2_with fail
        refine (H2.out _).mono ?_
        rintro e w2 ⟨rfl, hb2⟩
        go_wp2_with fail
        refine (H3.out _).mono ?_
        rintro e w3 ⟨rfl, hb3⟩
        go_wp2
        go_ret
        exact ⟨by simp_all, by (repeat (first | exact Below.refl _ _ | assumption | refine bel_alloc ?_ _ | refine bel_drew ?_ | refine bel_drewN ?_ _ | refine bel_set ?_ (by first | omega | (simp; done) | (simp; omega)) _ | refine bel_trans ?_ (by assumption)))⟩
      · have hv : (V == -1) = true := eq_yes (by rw [hV, bitAtV, if_neg (by simp [h]; omega)])
        have hUs1 : (U.size : Int) = 8 * (s.size : Int) := by omega
        by_cases hi0 : i < 0
        all_goals
          have hout : i < 0 ∨ (U.size : Int) ≤ i := by omega
          clear hV h hU hUs hr
          go_wp2_with fail
          refine (H1.out _).mono ?_
          rintro e w' ⟨rfl, rfl⟩
          go_wp2_with fail
          refine (H2.out _).mono ?_
          rintro e w2 ⟨rfl, hb2⟩
          go_wp2_with fail
          refine (H3.out _).mono ?_
          rintro e w3 ⟨rfl, hb3⟩
          go_wp2
          go_ret
          exact ⟨by simp_all, by (repeat (first | exact Below.refl _ _ | assumption | refine bel_alloc ?_ _ | refine bel_drew ?_ | refine bel_drewN ?_ _ | refine bel_set ?_ (by first | omega | (simp; done) | (simp; omega)) _ | refine bel_trans ?_ (by assumption)))⟩
end Go.Proofs.Ytgfclblooadomaa
