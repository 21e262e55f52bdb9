/- The walks of the exact laws on hexadecimal digits. -/
import Derived.Test.YtgfclblooadomacUnhex
namespace Go.Proofs.Ytgfclblooadomac
open Go.ChangeShapes Go.WideShapes Go.ChangeAt Go.RowKit Go.Joins
set_option linter.unusedVariables false

theorem PH_none {s : ByteArray} {e : Ending} (h : M.parseHex s.data.toList = none) (hp : PH s e) : e = .returned (.tuple #[.string ByteArray.empty, .bool false]) := by
  rcases hp with ⟨_, rfl⟩ | ⟨d, hd, _⟩
  · rfl
  · rw [h] at hd; cases hd
theorem PH_some {s : ByteArray} {e : Ending} {d : List UInt8} (h : M.parseHex s.data.toList = some d) (hp : PH s e) : e = .returned (.tuple #[.string (str d), .bool true]) := by
  rcases hp with ⟨hd, _⟩ | ⟨d', hd, rfl⟩
  · rw [h] at hd; cases hd
  · rw [h] at hd; cases hd; rfl

theorem c_ParseHex_no (s : ByteArray) (w : World) (hs : s.size ≤ maxLen) (h : M.parseHex s.data.toList = none) : Calls Try.prog 23 #[.string s] w fun e w' => e = .returned (.tuple #[.string ByteArray.empty, .bool false]) ∧ Below w.heap.size w w' :=
  (c_ParseHex s w hs).mono fun _ _ ⟨hp, hb⟩ => ⟨PH_none h hp, hb⟩

theorem c_ParseHex_yes (s : ByteArray) (d : List UInt8) (w : World) (hs : s.size ≤ maxLen) (h : M.parseHex s.data.toList = some d) : Calls Try.prog 23 #[.string s] w fun e w' => e = .returned (.tuple #[.string (str d), .bool true]) ∧ Below w.heap.size w w' :=
  (c_ParseHex s w hs).mono fun _ _ ⟨hp, hb⟩ => ⟨PH_some h hp, hb⟩

theorem c_sParseHex_no (s : ByteArray) (w : World) (hs : s.size ≤ 1048576) (h : M.parseHex s.data.toList = none) : Calls Try.prog 22 #[.string s] w fun e w' => e = .returned (.tuple #[.string ByteArray.empty, .bool false]) ∧ Below w.heap.size w w' :=
  (c_sParseHex s w hs).mono fun _ _ ⟨hp, hb⟩ => ⟨PH_none h hp, hb⟩

theorem c_sParseHex_yes (s : ByteArray) (d : List UInt8) (w : World) (hs : s.size ≤ 1048576) (h : M.parseHex s.data.toList = some d) : Calls Try.prog 22 #[.string s] w fun e w' => e = .returned (.tuple #[.string (str d), .bool true]) ∧ Below w.heap.size w w' :=
  (c_sParseHex s w hs).mono fun _ _ ⟨hp, hb⟩ => ⟨PH_some h hp, hb⟩

theorem walk_FnExactFormatHex (s : ByteArray) (w : World) (h_s : s.size ≤ maxLen) :
    Calls Try.prog 8 #[.string s] w fun e w' => e = .returned (.bool true) ∧ Below w.heap.size w w' := by
  by_cases big : 1048576 < s.size
  · unfold maxLen at *
    go_enter Try.func8, Try.ntmps8
    go_wp2_with fail
    go_ret
    exact ⟨rfl, by (repeat (first | exact Below.refl _ _ | assumption | refine bel_alloc ?_ _ | refine bel_drew ?_ | refine bel_drewN ?_ _ | refine bel_set ?_ (by first | omega | (simp; done) | (simp; omega)) _ | refine bel_trans ?_ (by assumption)))⟩
  · by_cases h : 4000 < s.size
    · go_enter Try.func8, Try.ntmps8
      go_wp2_with (first | (go_at_call 20; refine (c_sFormatHex_no _ _ (by omega) h).mono ?_; rintro e w1 ⟨rfl, hb1⟩; have hc1 := bcell hb1) | (go_at_call 21; refine (c_FormatHex_no _ _ h_s h).mono ?_; rintro e w2 ⟨rfl, hb2⟩; have hc2 := bcell hb2))
      go_ret
      exact ⟨rfl, by (repeat (first | exact Below.refl _ _ | assumption | refine bel_alloc ?_ _ | refine bel_drew ?_ | refine bel_drewN ?_ _ | refine bel_set ?_ (by first | omega | (simp; done) | (simp; omega)) _ | refine bel_trans ?_ (by assumption)))⟩
    · go_enter Try.func8, Try.ntmps8
      go_wp2_with (first | (go_at_call 20; refine (c_sFormatHex_yes _ _ (by omega)).mono ?_; rintro e w1 ⟨rfl, hb1⟩; have hc1 := bcell hb1) | (go_at_call 21; refine (c_FormatHex_yes _ _ (by omega)).mono ?_; rintro e w2 ⟨rfl, hb2⟩; have hc2 := bcell hb2))
      go_ret
      exact ⟨rfl, by (repeat (first | exact Below.refl _ _ | assumption | refine bel_alloc ?_ _ | refine bel_drew ?_ | refine bel_drewN ?_ _ | refine bel_set ?_ (by first | omega | (simp; done) | (simp; omega)) _ | refine bel_trans ?_ (by assumption)))⟩

theorem walk_FnExactParseHex (s : ByteArray) (w : World) (h_s : s.size ≤ maxLen) :
    Calls Try.prog 9 #[.string s] w fun e w' => e = .returned (.bool true) ∧ Below w.heap.size w w' := by
  by_cases big : 1048576 < s.size
  · unfold maxLen at *
    go_enter Try.func9, Try.ntmps9
    go_wp2_with fail
    go_ret
    exact ⟨rfl, by (repeat (first | exact Below.refl _ _ | assumption | refine bel_alloc ?_ _ | refine bel_drew ?_ | refine bel_drewN ?_ _ | refine bel_set ?_ (by first | omega | (simp; done) | (simp; omega)) _ | refine bel_trans ?_ (by assumption)))⟩
  · cases h : M.parseHex s.data.toList with
    | none =>
      have H := hid h
      clear h
      go_enter Try.func9, Try.ntmps9
      go_wp2_with (first | (go_at_call 22; refine (c_sParseHex_no _ _ (by omega) H.out).mono ?_; rintro e w1 ⟨rfl, hb1⟩; have hc1 := bcell hb1) | (go_at_call 23; refine (c_ParseHex_no _ _ h_s H.out).mono ?_; rintro e w2 ⟨rfl, hb2⟩; have hc2 := bcell hb2))
      go_ret
      exact ⟨rfl, by (repeat (first | exact Below.refl _ _ | assumption | refine bel_alloc ?_ _ | refine bel_drew ?_ | refine bel_drewN ?_ _ | refine bel_set ?_ (by first | omega | (simp; done) | (simp; omega)) _ | refine bel_trans ?_ (by assumption)))⟩
    | some d =>
      have H := hid h
      clear h
      go_enter Try.func9, Try.ntmps9
      go_wp2_with (first | (go_at_call 22; refine (c_sParseHex_yes _ d _ (by omega) H.out).mono ?_; rintro e w1 ⟨rfl, hb1⟩; have hc1 := bcell hb1) | (go_at_call 23; refine (c_ParseHex_yes _ d _ h_s H.out).mono ?_; rintro e w2 ⟨rfl, hb2⟩; have hc2 := bcell hb2))
      go_ret
      exact ⟨rfl, by (repeat (first | exact Below.refl _ _ | assumption | refine bel_alloc ?_ _ | refine bel_drew ?_ | refine bel_drewN ?_ _ | refine bel_set ?_ (by first | omega | (simp; done) | (simp; omega)) _ | refine bel_trans ?_ (by assumption)))⟩
end Go.Proofs.Ytgfclblooadomac
