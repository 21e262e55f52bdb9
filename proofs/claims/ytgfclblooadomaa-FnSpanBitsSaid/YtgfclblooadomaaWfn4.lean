/- The walk of the law on SpanBits. -/
import Derived.Test.YtgfclblooadomaaDraw5
import Derived.Test.YtgfclblooadomaaBit
import Derived.Test.YtgfclblooadomaaWfn2
namespace Go.Proofs.Ytgfclblooadomaa
open Go.ChangeShapes Go.WideShapes Go.ChangeAt Go.RowKit Go.Joins
set_option linter.unusedVariables false

theorem span_cut (o : Int) (s : ByteArray) (f n : Nat) (h : f + n ≤ 8 * s.size) : (str (unpackL o s)).extract f (f + n) = str (spanL o s f n) := by
  rw [← str_self ((str (unpackL o s)).extract f (f + n)), Lib.extract_data, str_list, spanL, show f + n - f = n from by omega]

theorem walk_FnSpanBits (A' : Option Addr) (n cap : Nat) (w : World) (hc : CodeAt w w.heap.size A' n cap) : Calls Try.prog 11 #[.slice A' n cap] w fun e w' => e = .returned (.bool true) ∧ Below w.heap.size w w' := by
  have hbig := big_code hc
  by_cases big : 1048576 < n
  · go_enter Try.func11, Try.ntmps11
    go_wp2_with fail
    go_ret
    exact ⟨rfl, by (repeat (first | exact Below.refl _ _ | assumption | refine bel_alloc ?_ _ | refine bel_drew ?_ | refine bel_drewN ?_ _ | refine bel_set ?_ (by first | omega | (simp; done) | (simp; omega)) _ | refine bel_trans ?_ (by assumption)))⟩
  · go_enter Try.func11, Try.ntmps11
    go_wp2_with fail
    refine (c_DrawSpanBits _ _ _ _ hc).mono ?_
    rintro e w1 ⟨o, s, f, m, rfl, hx, hs, hf, hm, hb1⟩
    have hsm : s.size ≤ maxLen := by unfold maxLen; omega
    cases h : stOk o s with
    | false =>
      have hno : spanOk o s f m = false := by simp [spanOk, h]
      have H1 := hid (fun w => c_SpanBits_no o s f m w hsm hno)
      have H2 := hid (fun w => c_sSpanBits_no o s f m w hsm hno)
      have H3 := hid (fun w => c_UnpackBits_no o s w hsm h)
      clear h hno
      go_wp2_with fail
      refine (H1.out _).mono ?_
      rintro e w2 ⟨rfl, hb2⟩
      go_wp2_with fail
      refine (H2.out _).mono ?_
      rintro e w3 ⟨rfl, hb3⟩
      go_wp2_with fail
      refine (H3.out _).mono ?_
      rintro e w4 ⟨rfl, hb4⟩
      go_wp2
      go_ret
      exact ⟨by simp_all, by (repeat (first | exact Below.refl _ _ | assumption | refine bel_alloc ?_ _ | refine bel_drew ?_ | refine bel_drewN ?_ _ | refine bel_set ?_ (by first | omega | (simp; done) | (simp; omega)) _ | refine bel_trans ?_ (by assumption)))⟩
    | true =>
      obtain ⟨ho, h4⟩ := stOk_iff.1 h
      obtain ⟨U, hU⟩ : ∃ U, U = str (unpackL o s) := ⟨_, rfl⟩
      have hUs : U.size = 8 * s.size := by rw [hU, str_size, unpackL_len]
      have H3 := hid (show ∀ w, Calls Try.prog 35 #[.int .i64 o, .string s] w fun e w' => e = .returned (.tuple #[.string U, .bool true]) ∧ Below w.heap.size w w' by intro w; rw [hU]; exact c_UnpackBits_yes o s w hsm h)
      have hUs1 : (U.size : Int) = 8 * (s.size : Int) := by omega
      by_cases hok : spanOk o s f m = true
      · obtain ⟨_, ⟨hf0, hf1⟩, hm0, hm1⟩ := spanOk_iff.1 hok
        obtain ⟨F, rfl⟩ := Int.eq_ofNat_of_zero_le hf0
        obtain ⟨N, rfl⟩ := Int.eq_ofNat_of_zero_le hm0
        have hFN : F + N ≤ U.size := by omega
        obtain ⟨T, hT⟩ : ∃ T, T = str (spanL o s F N) := ⟨_, rfl⟩
        have hcut : U.extract F (F + N) = T := by rw [hU, hT, span_cut o s F N (by omega)]
        have H1 := hid (show ∀ w, Calls Try.prog 45 #[.int .i64 o, .string s, .int .i64 F, .int .i64 N] w fun e w' => e = .returned (.tuple #[.string T, .bool true]) ∧ Below w.heap.size w w' by intro w; rw [hT]; exact c_SpanBits_yes o s F N w hsm hok)
        have H2 := hid (show ∀ w, Calls Try.prog 46 #[.int .i64 o, .string s, .int .i64 F, .int .i64 N] w fun e w' => e = .returned (.tuple #[.string T, .bool true]) ∧ Below w.heap.size w w' by intro w; rw [hT]; exact c_sSpanBits_yes o s F N w hsm hok)
        have hsl := slice_str (P := Try.prog) Try.underlying9 U (F : Int) ((F : Int) + (N : Int)) F (F + N) rfl (by omega) (by omega) hFN
        rw [hcut] at hsl
        have q1 : (F : Int) ≤ (U.size : Int) := by omega
        have q2 : (N : Int) ≤ (U.size : Int) := by omega
        have q3 : (F : Int) + (N : Int) ≤ (U.size : Int) := by omega
        have q4 : (U.size : Int) ≤ 48 := by omega
        clear h hok hU hUs hT hcut hUs1 hf1 hm1 hFN
        go_wp2_with fail
        refine (H1.out _).mono ?_
        rintro e w2 ⟨rfl, hb2⟩
        go_wp2_with fail
        refine (H2.out _).mono ?_
        rintro e w3 ⟨rfl, hb3⟩
        go_wp2_with fail
        refine (H3.out _).mono ?_
        rintro e w4 ⟨rfl, hb4⟩
        go_wp2
        go_ret
        exact ⟨by simp_all, by (repeat (first | exact Below.refl _ _ | assumption | refine bel_alloc ?_ _ | refine bel_drew ?_ | refine bel_drewN ?_ _ | refine bel_set ?_ (by first | omega | (simp; done) | (simp; omega)) _ | refine bel_trans ?_ (by assumption)))⟩
      · have hno : spanOk o s f m = false := by simpa using hok
        have H1 := hid (fun w => c_SpanBits_no o s f m w hsm hno)
        have H2 := hid (fun w => c_sSpanBits_no o s f m w hsm hno)
        have hbad : f < 0 ∨ (0 ≤ f ∧ (U.size : Int) < f) ∨ (0 ≤ f ∧ f ≤ (U.size : Int) ∧ m < 0) ∨ (0 ≤ f ∧ f ≤ (U.size : Int) ∧ 0 ≤ m ∧ (U.size : Int) < m) ∨ (0 ≤ f ∧ f ≤ (U.size : Int) ∧ 0 ≤ m ∧ m ≤ (U.size : Int) ∧ (U.size : Int) < f + m) := by
          have := mt spanOk_iff.2 hok
          simp only [h, true_and] at this
          omega
        have q4 : (U.size : Int) ≤ 48 := by omega
        clear h hok hno hU hUs hUs1
        rcases hbad with g | ⟨g1, g⟩ | ⟨g1, g2, g⟩ | ⟨g1, g2, g3, g⟩ | ⟨g1, g2, g3, g4, g⟩
        all_goals
          go_wp2_with fail
          refine (H1.out _).mono ?_
          rintro e w2 ⟨rfl, hb2⟩
          go_wp2_with fail
          refine (H2.out _).mono ?_
          rintro e w3 ⟨rfl, hb3⟩
          go_wp2_with fail
          refine (H3.out _).mono ?_
          rintro e w4 ⟨rfl, hb4⟩
          go_wp2
          go_ret
          exact ⟨by simp_all, by (repeat (first | exact Below.refl _ _ | assumption | refine bel_alloc ?_ _ | refine bel_drew ?_ | refine bel_drewN ?_ _ | refine bel_set ?_ (by first | omega | (simp; done) | (simp; omega)) _ | refine bel_trans ?_ (by assumption)))⟩
end Go.Proofs.Ytgfclblooadomaa
